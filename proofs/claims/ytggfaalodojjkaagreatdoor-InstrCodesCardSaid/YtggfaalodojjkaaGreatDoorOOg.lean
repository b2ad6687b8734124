/-
  op.All.
-/
import Derived.Test.YtggfaalodojjkaaGreatDoorOOf
import Derived.OwnWalk
import Derived.Outline
namespace Go.Proofs.YtggfaalodojjkaaGreatDoor
open Go.RowKit Go.ChangeShapes Go.WideShapes Go.ChangeAt
set_option linter.unusedVariables false
set_option linter.unusedSimpArgs false
theorem ag97 : (P : Program) → P = Tryz.prog → (∀ W, (sizeOf 141).run P W = .ok 10 W) ∧ (∀ W, (isAgg 141).run P W = .ok true W) ∧ ∀ W, (underlying 142).run P W = .ok (.array 38 141) W := fun P h => by
  subst h
  exact ⟨fun W => Tryz.sizeOf141 W, fun W => Tryz.isAgg141 W, fun W => run_underlying Tryz.underlying142 W⟩
theorem row_ext {k : Nat} {r : Rw} (hk : RW[k]? = some r) : CR.extract (k * 10) (k * 10 + 10) = r.cells.toArray := by
  apply Array.ext_getElem?
  intro j
  rw [Array.getElem?_extract]
  by_cases hj : j < 10
  · rw [if_pos (by
      have h1 := cellsCR k j hj
      rw [hk] at h1
      have h2 : CR[10 * k + j]? = r.cells[j]? := h1
      have h3 : j < r.cells.length := hj
      rw [List.getElem?_eq_getElem h3] at h2
      have h4 := (Array.getElem?_eq_some_iff.1 h2).1
      omega), Nat.mul_comm k 10, cellsCR k j hj, hk, List.getElem?_toArray]; rfl
  · rw [if_neg (by omega), List.getElem?_toArray, List.getElem?_eq_none (by rw [cells_len]; omega)]
theorem idx97 (k : Nat) (r : Rw) (hk : RW[k]? = some r) (W : World) : (Instr.index 142 (.agg CR) (.int .i64 (k : Int))).run Tryz.prog W = .ok (.agg r.cells.toArray) W := by
  have hk38 : k < 38 := by rw [← RW_length]; exact (List.getElem?_eq_some_iff.1 hk).1
  have he := row_ext hk
  generalize hP : Tryz.prog = P
  obtain ⟨h1, h2, h3⟩ := ag97 P hP.symm
  have h4 : (k : Int) < 38 := by omega
  simp [Instr.index, asIntOf, h3, part, h1, h2, h4, Result.andThen, he]
  intro h; omega
def opsR (r : Rw) : List (Rw × Nat) := (List.range (Lib.fields r.names).length).map fun i => (r, i)
def OPS : List (Rw × Nat) := RW.flatMap opsR
theorem OPS_length : OPS.length = 111 := by kernel_rfl
def infC (r : Rw) (i : Nat) (At : Option Addr) (ct : Nat) (Ag : Option Addr) (cg : Nat) : List Value := [.int .i64 ((r.first : Int) + (i : Int)), .string (nmS r i), .int .i64 ((r.form : Nat) : Int), .slice At r.takes.length ct, .slice Ag r.gives.length cg]
/-- cells that are ops', one behind the other -/
def Infs (w : World) (B : Nat) : List (Rw × Nat) → List Value → Prop
  | [], xs => xs = []
  | (r, i) :: l, xs => ∃ At ct Ag cg ys, xs = infC r i At ct Ag cg ++ ys ∧ w.ownsRow B 113 1 (.slice At r.takes.length ct) r.takes.length (r.takes.map U8) ∧ w.ownsRow B 113 1 (.slice Ag r.gives.length cg) r.gives.length (r.gives.map U8) ∧ Infs w B l ys
theorem Infs.len {w : World} {B : Nat} : ∀ {l : List (Rw × Nat)} {xs : List Value}, Infs w B l xs → xs.length = l.length * 5
  | [], xs, h => by rw [show xs = [] from h]; rfl
  | (r, i) :: l, xs, h => by
    obtain ⟨At, ct, Ag, cg, ys, rfl, h1, h2, h3⟩ := h
    rw [List.length_append, h3.len]
    simp [infC]; omega
theorem Infs.map {w w' : World} {B : Nat} (hk : ∀ v n xs, w.ownsRow B 113 1 v n xs → w'.ownsRow B 113 1 v n xs) : ∀ {l : List (Rw × Nat)} {xs : List Value}, Infs w B l xs → Infs w' B l xs
  | [], xs, h => h
  | (r, i) :: l, xs, h => by
    obtain ⟨At, ct, Ag, cg, ys, e, h1, h2, h3⟩ := h
    exact ⟨At, ct, Ag, cg, ys, e, hk _ _ _ h1, hk _ _ _ h2, h3.map hk⟩
theorem Infs.kept {w w' : World} {B : Nat} {l : List (Rw × Nat)} {xs : List Value} (h : Infs w B l xs) (hb : Below w.heap.size w w') : Infs w' B l xs := h.map fun v n xs ho => own_kept ho hb
theorem Infs.snoc {w : World} {B : Nat} {r : Rw} {i : Nat} {At : Option Addr} {ct : Nat} {Ag : Option Addr} {cg : Nat} (h1 : w.ownsRow B 113 1 (.slice At r.takes.length ct) r.takes.length (r.takes.map U8)) (h2 : w.ownsRow B 113 1 (.slice Ag r.gives.length cg) r.gives.length (r.gives.map U8)) :
    ∀ {l : List (Rw × Nat)} {xs : List Value}, Infs w B l xs → Infs w B (l ++ [(r, i)]) (xs ++ infC r i At ct Ag cg)
  | [], xs, h => by
    rw [show xs = [] from h]
    exact ⟨At, ct, Ag, cg, [], by simp, h1, h2, rfl⟩
  | (r', i') :: l, xs, h => by
    obtain ⟨At', ct', Ag', cg', ys, rfl, h3, h4, h5⟩ := h
    exact ⟨At', ct', Ag', cg', ys ++ infC r i At ct Ag cg, by rw [List.append_assoc], h3, h4, h5.snoc h1 h2⟩
/-- what is written into another type's block leaves a row -/
theorem own_other {base E size : Nat} {w w' : World} {v : Value} {n : Nat} {xs : List Value} (h : w.ownsRow base E size v n xs) {g t : Nat} {cs : Array Value} (hg : Blk w g t cs) (ht : t ≠ E) (hgr : w.grownBy w' (some g)) : w'.ownsRow base E size v n xs := by
  refine h.kept hgr ?_
  rcases h.2 with ⟨e, _⟩ | ⟨g2, cap, cur, e, _, h2, _⟩
  · exact .inl (by rw [e]; rfl)
  · refine .inr ?_
    rw [e]
    intro h3
    injection h3 with h3
    simp at h3
    subst h3
    exact Blk.ne_ (t := E) (cs := cur) h2 hg (fun h => ht h.symm) rfl
theorem own_none {base E size : Nat} {w w' : World} {v : Value} {n : Nat} {xs : List Value} (h : w.ownsRow base E size v n xs) (hgr : w.grownBy w' none) : w'.ownsRow base E size v n xs := by
  refine h.kept hgr ?_
  rcases h.2 with ⟨e, _⟩ | ⟨g2, cap, cur, e, _, h2, _⟩
  · exact .inl (by rw [e]; rfl)
  · exact .inr (by rw [e]; simp [Value.ownBlock])
theorem Infs.grown {w w' : World} {B : Nat} {l : List (Rw × Nat)} {xs zs : List Value} {base n : Nat} {v : Value} (h : Infs w B l xs) (ho : w.ownsRow base 61 5 v n zs) (hgr : w.grownBy w' v.ownBlock) : Infs w' B l xs := by
  refine h.map fun u m us hu => ?_
  rcases ho.2 with ⟨e, _⟩ | ⟨g2, cap, cur, e, _, h2, _⟩
  · rw [e] at hgr; exact own_none hu hgr
  · rw [e] at hgr
    exact own_other (t := 61) hu (cs := cur) h2 (by decide) hgr
theorem info61 : (Tryz.prog.info? 61).map (fun i => (i.zero, i.size, i.bytes)) = some (some (.agg Z57), 5, 80) := by kernel_rfl
end Go.Proofs.YtggfaalodojjkaaGreatDoor
