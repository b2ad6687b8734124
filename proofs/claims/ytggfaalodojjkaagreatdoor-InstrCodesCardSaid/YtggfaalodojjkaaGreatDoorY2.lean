/-
  Texts of YtggfaalodojjkaaGreatDoorY2.
-/
import Derived.Test.YtggfaalodojjkaaGreatDoorOOj
import Derived.Deep.RegionWith
import Derived.OwnWalk
import Derived.Laws.OwnMore
import Derived.Laws.CopyOwn
import Derived.Maps.AppendAt
import Derived.Deep.RegionLaw
import Derived.Outline
import Derived.Deep.Upon
import Derived.Deep.RegionHeld3
import Derived.Lib.ItoaNum
import Derived.Lib.ItoaMem
import Derived.Lib.ParseIntB
import Derived.Shelf.Strings.Builder1
import Derived.Shelf.Strings.Builder2
import Derived.Shelf.Strings.OnBuilder
import Derived.Shelf.Strings.BuilderF
import Derived.Shelf.Strings.BuilderK
import Derived.Shelf.Strconv.Itoa4
import Derived.Shelf.Strconv.ParseIntPublic10
import Derived.Shelf.Strconv.Lower
import Derived.Shelf.Strconv.ToErrorRange
import Derived.Shelf.LaysM
import Derived.Shelf.LaysC
import Derived.Ground.MpProg
import Derived.Shelf.Pu.ParseUintPublic10
import Derived.Shelf.Strings.Search1
import Derived.Shelf.Strings.Search2
import Derived.Shelf.Strings.Search3
import Derived.Shelf.Strings.Count
import Derived.Shelf.Strings.Prefix
import Derived.Shelf.Strings.Split
import Derived.Test.YtggfaalodojjkaaGreatDoorProg
import Derived.Test.YtggfaalodojjkaaGreatDoorRows
import Derived.Test.YtggfaalodojjkaaGreatDoorQLa
import Derived.WalkKit
import Derived.WalkSpells
import Derived.WalkLawsBesides
import Derived.BigQuiet
import Derived.Deep.QuietTactic
import Derived.Lib.Hide
import Derived.Laws.BitsAllLaws
import Derived.Deep.DeepFit
import Derived.Deep.DeepMust
import Derived.Test.YtggfaalodojjkaaGreatDoorOOe
import Derived.Lib.AppendIntMem
import Derived.Lib.AtoiErrMem
namespace Go.Proofs.YtggfaalodojjkaaGreatDoor
open Go.RowKit Go.ChangeShapes Go.WideShapes Go.ChangeAt
set_option linter.unusedVariables false
set_option linter.unusedSimpArgs false
theorem RowOf.fst {code : Int} {k : Nat} {r : Rw} (h : RowOf code k r) : (fstK k : Int) ≤ code := by
  unfold fstK; rw [h.1]; exact h.2.1
theorem RowOf.lt {code : Int} {k : Nat} {r : Rw} (h : RowOf code k r) : k < 38 := by rw [← RW_length]; exact (List.getElem?_eq_some_iff.1 h.1).1
theorem RowOf.uniq {code : Int} {k k' : Nat} {r r' : Rw} (h : RowOf code k r) (h' : RowOf code k' r') : k = k' ∧ r = r' := by
  have e : k = k' := by
    rcases Nat.lt_trichotomy k k' with h1 | h1 | h1
    · have := h.2.2 k' h1 h'.lt; have := h'.fst; omega
    · exact h1
    · have := h'.2.2 k h1 h.lt; have := h.fst; omega
  subst e
  exact ⟨rfl, Option.some.inj (h.1.symm.trans h'.1)⟩
/-- the op of a code: a row, and a place in it -/
def OpAt (code : Int) (r : Rw) (i : Nat) : Prop := (r, i) ∈ OPS ∧ (r.first : Int) + (i : Int) = code
theorem mem_OPS {r : Rw} {i : Nat} : (r, i) ∈ OPS ↔ r ∈ RW ∧ i < (Lib.fields r.names).length := by
  unfold OPS opsR
  simp only [List.mem_flatMap, List.mem_map, List.mem_range, Prod.mk.injEq]
  constructor
  · rintro ⟨r', h1, i', h2, rfl, rfl⟩; exact ⟨h1, h2⟩
  · rintro ⟨h1, h2⟩; exact ⟨r, h1, i, h2, rfl, rfl⟩
def nmL (r : Rw) (i : Nat) : List UInt8 := r.head ++ ((Lib.fields r.names)[i]?).getD []
theorem nmL_eq (r : Rw) (i : Nat) : (nmS r i).data.toList = nmL r i := by
  rw [nm_list]
  unfold nmL wordB
  cases (Lib.fields r.names)[i]? <;> rfl
/-- codes and names, as numbers -/
def CNS : List (Nat × List Nat) := OPS.map fun q => (q.1.first + q.2, (nmL q.1 q.2).map UInt8.toNat)
def lenK (k : Nat) : Nat := ((RW[k]?).map fun r => (Lib.fields r.names).length).getD 0
theorem nolap : ∀ k j, k < j → j < 38 → fstK k + lenK k ≤ fstK j := by
  have h : ((List.range 38).all fun k => (List.range 38).all fun j => !(decide (k < j)) || decide (fstK k + lenK k ≤ fstK j)) = true := by kernel_rfl
  intro k j h1 h2
  have h3 := List.all_eq_true.1 (List.all_eq_true.1 h k (by simp; omega)) j (by simp; omega)
  simpa [h1] using h3
theorem RowOf.of_op {code : Int} {r : Rw} {i : Nat} (h : OpAt code r i) : ∃ k, RowOf code k r := by
  obtain ⟨h1, h2⟩ := h
  obtain ⟨h3, h4⟩ := mem_OPS.1 h1
  obtain ⟨k, hk⟩ := List.getElem?_of_mem h3
  refine ⟨k, hk, by omega, fun j hj hj2 => ?_⟩
  have := nolap k j hj hj2
  have e1 : fstK k = r.first := by unfold fstK; rw [hk]; rfl
  have e2 : lenK k = (Lib.fields r.names).length := by unfold lenK; rw [hk]; rfl
  omega
theorem row_ex (code : Int) (h : 0 ≤ code) : ∃ k r, RowOf code k r := by
  have h0 : fstK 0 = 0 := by kernel_rfl
  have key : ∀ n, n ≤ 38 → (∀ j, n ≤ j → j < 38 → code < (fstK j : Int)) → ∃ k r, RowOf code k r := by
    intro n
    induction n with
    | zero => intro _ hj; have := hj 0 (Nat.le_refl _) (by omega); rw [h0] at this; omega
    | succ n ih =>
      intro hn hj
      by_cases hc : code < (fstK n : Int)
      · exact ih (by omega) (fun j h1 h2 => by
          by_cases e : j = n
          · rw [e]; exact hc
          · exact hj j (by omega) h2)
      · obtain ⟨r, hr⟩ : ∃ r, RW[n]? = some r := ⟨_, List.getElem?_eq_getElem (by rw [RW_length]; omega)⟩
        have e1 : fstK n = r.first := by unfold fstK; rw [hr]; rfl
        exact ⟨n, r, hr, by omega, fun j h1 h2 => hj j (by omega) h2⟩
  exact key 38 (Nat.le_refl _) (fun j h1 h2 => by omega)
theorem Find_case (code : Int) (hc : (Lit.int .i64 code).wf = true) :
    (∃ r i, OpAt code r i ∧ ∀ W, Tb W → Calls Tryz.prog 53 #[.int .i64 code] W (IPost r i W)) ∨
    ((∀ r i, ¬ OpAt code r i) ∧ ∀ W, Tb W → Calls Tryz.prog 53 #[.int .i64 code] W (NoPost W)) := by
  by_cases h0 : code < 0
  · refine .inr ⟨fun r i h => ?_, fun W hT => (Find_any code hc W hT).mono ?_⟩
    · have := h.2; omega
    · intro e w' h
      rcases h with ⟨_, h⟩ | ⟨k, r, hr, _⟩
      · exact h
      · have := hr.2.1; omega
  · obtain ⟨k, r, hr⟩ := row_ex code (by omega)
    have hm : r ∈ RW := List.mem_of_getElem? hr.1
    by_cases hl : (code - r.first).toNat < (Lib.fields r.names).length
    · refine .inl ⟨r, (code - r.first).toNat, ⟨mem_OPS.2 ⟨hm, hl⟩, by have := hr.2.1; omega⟩, fun W hT => (Find_any code hc W hT).mono ?_⟩
      intro e w' h
      rcases h with ⟨h, _⟩ | ⟨k', r', hr', h⟩
      · omega
      · obtain ⟨rfl, rfl⟩ := hr.uniq hr'
        rcases h with ⟨h, _⟩ | ⟨_, h⟩
        · omega
        · exact h
    · refine .inr ⟨fun r' i h => ?_, fun W hT => (Find_any code hc W hT).mono ?_⟩
      · obtain ⟨k', hk'⟩ := RowOf.of_op h
        obtain ⟨rfl, rfl⟩ := hr.uniq hk'
        have := (mem_OPS.1 h.1).2
        have := h.2
        omega
      · intro e w' h
        rcases h with ⟨h, _⟩ | ⟨k', r', hr', h⟩
        · omega
        · obtain ⟨rfl, rfl⟩ := hr.uniq hr'
          rcases h with ⟨_, h⟩ | ⟨h, _⟩
          · exact h
          · omega
theorem apartB : (CNS.all fun a => CNS.all fun b => (a.2 == b.2) == (a.1 == b.1)) = true := by kernel_rfl
theorem toNat_inj {a b : List UInt8} (h : a.map UInt8.toNat = b.map UInt8.toNat) : a = b := by
  induction a generalizing b with
  | nil => cases b with
    | nil => rfl
    | cons y b => simp at h
  | cons x a ih => cases b with
    | nil => simp at h
    | cons y b =>
      simp only [List.map_cons, List.cons.injEq] at h
      rw [UInt8.toNat_inj.1 h.1, ih h.2]
/-- no two ops have one name -/
theorem names_apart {c c' : Int} {r r' : Rw} {i i' : Nat} (h : OpAt c r i) (h' : OpAt c' r' i') : nmS r i = nmS r' i' ↔ c = c' := by
  have m : ∀ {r i}, (r, i) ∈ OPS → (r.first + i, (nmL r i).map UInt8.toNat) ∈ CNS := fun hm => List.mem_map.2 ⟨_, hm, rfl⟩
  have hB := List.all_eq_true.1 (List.all_eq_true.1 apartB _ (m h.1)) _ (m h'.1)
  simp only [beq_iff_eq] at hB
  have e : ((nmL r i).map UInt8.toNat = (nmL r' i').map UInt8.toNat) ↔ (r.first + i = r'.first + i') := by
    constructor
    · intro q
      have q1 : ((nmL r i).map UInt8.toNat == (nmL r' i').map UInt8.toNat) = true := by rw [beq_iff_eq]; exact q
      rw [q1] at hB
      exact beq_iff_eq.1 hB.symm
    · intro q
      have q1 : (r.first + i == r'.first + i') = true := by rw [beq_iff_eq]; exact q
      rw [q1] at hB
      exact beq_iff_eq.1 hB
  have h2 := h.2
  have h3 := h'.2
  constructor
  · intro q
    have : nmL r i = nmL r' i' := by rw [← nmL_eq, ← nmL_eq, q]
    have := e.1 (by rw [this])
    omega
  · intro q
    have := e.2 (by omega)
    exact ba_ext (by rw [nmL_eq, nmL_eq]; exact toNat_inj this)
end Go.Proofs.YtggfaalodojjkaaGreatDoor
namespace Go.Proofs.YtggfaalodojjkaaGreatDoor
open Go.RowKit
set_option linter.unusedVariables false
set_option linter.unusedSimpArgs false
/-- append in a region that draws its order, by an equation on its run -/
theorem below_drew {B : Nat} {w w1 : World} (h : Below B w w1) : Below B w w1.drew := ⟨h.os, h.tape, h.output, h.size, h.block⟩
theorem below_drewN {B : Nat} {w w1 : World} (h : Below B w w1) (n : Nat) : Below B w (w1.drewN n) := ⟨h.os, h.tape, h.output, h.size, h.block⟩
theorem step_append_run {P : Program} {ops : Array Oper} {o : Oper} {a : Act} {w : World} {K : Act → World → Prop} {Q : Exit → Act → World → Prop} {E : Prop} (hgd : o.guard = none) (s x : Operand) (T : TypeId)
    (ho : o.op = .call { callee := .builtin .append, args := #[s, x], argTypes := #[T, T] }) (v xv v' : Value) (w' : World) (hs : a.eval s = v) (hx : a.eval x = xv)
    (hrun : Hid (∀ ty, (Builtin.append_ #[T, T] ty #[v, xv]).run P w = .ok v' w')) (h : K (a.put o.dst v') w') :
    if Region.wanted o (yielded ops a.tmps) = true then Oper.wp P o a w K Q else E := by
  have hw : Region.wanted o (yielded ops a.tmps) = true := by simp [Region.wanted, hgd]
  rw [if_pos hw]
  unfold Oper.wp
  simp [execOp, ho, resolve, invoke, builtin, hs, hx, hrun.out o.type, Result.andThen]
  exact h
theorem Fr.grownV {w w' : World} {o : Option Nat} (h : w.grownBy w' o) : Fr (fun k => o = some k) w w' := ⟨h.os, h.tape, h.output, h.size, fun i hi hs => h.block i hi (fun e => hs e.symm)⟩
theorem own_ty {base E size : Nat} {w : World} {v : Value} {n k : Nat} {xs : List Value} (h : w.ownsRow base E size v n xs) (hk : v.ownBlock = some k) : ∃ cs, Blk w k E cs := by
  rcases h.2 with ⟨e, _⟩ | ⟨g, cap, cur, e, _, hg, _⟩
  · rw [e] at hk; cases hk
  · rw [e] at hk; cases hk; exact ⟨cur, hg⟩
/-- a row whose block is as it was -/
theorem own_fr {S : Nat → Prop} {base E size : Nat} {w w' : World} {v : Value} {n : Nat} {xs : List Value} (h : w.ownsRow base E size v n xs) (hf : Fr S w w') (hne : ∀ k, v.ownBlock = some k → ¬ S k) : w'.ownsRow base E size v n xs := by
  refine ⟨h.1, ?_⟩
  rcases h.2 with h2 | ⟨g, cap, cur, e, hB, hg, rest⟩
  · exact .inl h2
  · exact .inr ⟨g, cap, cur, e, hB, hf.keep hg (hne g (by rw [e]; rfl)), rest⟩
theorem own_some {base E size : Nat} {w : World} {v : Value} {n : Nat} {xs : List Value} (h : w.ownsRow base E size v n xs) (hn : 0 < n) : ∃ g cp, v = .slice (some ⟨g, 0, none⟩) n cp ∧ n ≤ cp ∧ cp ≤ maxLen := by
  rcases h.2 with ⟨e, h0⟩ | ⟨g, cap, cur, e, _, _, hc, hm, _⟩
  · omega
  · exact ⟨g, cap, e, hc, hm⟩
theorem own_cut {base E size g n c m : Nat} {w : World} {xs : List Value} (h : w.ownsRow base E size (.slice (some ⟨g, 0, none⟩) n c) n xs) (hm : m ≤ n) : w.ownsRow base E size (.slice (some ⟨g, 0, none⟩) m c) m (xs.take (m * size)) := by
  rcases h.2 with ⟨e, _⟩ | ⟨g', cap, cur, e, hB, hg, hnc, hcm, hcs, htk⟩
  · cases e
  · cases e
    refine ⟨?_, .inr ⟨g, c, cur, rfl, hB, hg, by omega, hcm, hcs, ?_⟩⟩
    · rw [List.length_take, h.1]; exact Nat.min_eq_left (Nat.mul_le_mul_right _ hm)
    · rw [← htk, List.take_take, Nat.min_eq_left (Nat.mul_le_mul_right _ hm)]
end Go.Proofs.YtggfaalodojjkaaGreatDoor
namespace Go.Proofs.YtggfaalodojjkaaGreatDoor
open Go.RowKit
set_option linter.unusedVariables false
set_option linter.unusedSimpArgs false
/-- an instruction as told -/
structure In where
  cd : Int
  a : Int
  b : Int
  al : Int
  l : List Int
def U64 (z : Int) : Value := .int .u64 z
def I5 (x : In) (s : Value) : List Value := [.int .i64 x.cd, .int .u64 x.a, .int .u64 x.b, .int .i64 x.al, s]
/-- a slice of words that can be read -/
def Sl (w : World) (B : Option Addr) (n cp : Nat) (l : List Int) : Prop :=
  l.length = n ∧ n ≤ cp ∧ cp ≤ maxLen ∧ (0 < n → ∃ g o, B = some ⟨g, o, none⟩ ∧ g < w.heap.size ∧ ∀ i, i < n → w.cell? ⟨g, o + i, none⟩ = some (U64 (l.getD i 0)))
theorem Sl.below {w w' : World} {B : Option Addr} {n cp : Nat} {l : List Int} (h : Sl w B n cp l) (hb : Below w.heap.size w w') : Sl w' B n cp l := by
  obtain ⟨h1, h2, h3, h4⟩ := h
  refine ⟨h1, h2, h3, fun h0 => ?_⟩
  obtain ⟨g, o, e, hg, hc⟩ := h4 h0
  exact ⟨g, o, e, Nat.lt_of_lt_of_le hg hb.size, fun i hi => (hb.cell (p := ⟨g, o + i, none⟩) hg).trans (hc i hi)⟩
theorem own_empty (w : World) (E size B : Nat) (hB : B ≤ w.heap.size) : (w.alloc (.cells #[] E)).ownsRow B E size (.slice (some ⟨w.heap.size, 0, none⟩) 0 0) 0 [] :=
  ⟨by simp, .inr ⟨w.heap.size, 0, #[], rfl, hB, heap_alloc_new w _, Nat.le_refl _, Nat.zero_le _, by simp, by simp⟩⟩
theorem info22 : (Tryz.prog.info? 22).map (fun i => (i.zero, i.size, i.bytes)) = some (some (.int .u64 0), 1, 8) := by kernel_rfl
/-- a row of words copied to an empty one -/
theorem cpy (B : Nat) (w : World) (hB : B ≤ w.heap.size) (A : Option Addr) (n c : Nat) (l : List Int) (h : Sl w A n c l) (hn : n ≤ 200000) :
    ∃ g cap w3, (∀ ty, (Builtin.append_ #[23, 23] ty #[.slice (some ⟨w.heap.size, 0, none⟩) 0 0, .slice A n c]).run Tryz.prog (w.alloc (.cells #[] 22)) = .ok (.slice (some ⟨g, 0, none⟩) n cap) w3) ∧
      w3.ownsRow B 22 1 (.slice (some ⟨g, 0, none⟩) n cap) n (l.map U64) ∧ Fr (fun _ => False) w w3 := by
  obtain ⟨i0, hi, hz0, hz1, hz2⟩ := info_parts info22
  obtain ⟨h1, h2, h3, h4⟩ := h
  subst h1
  have f0 : Fr (fun _ => False) w (w.alloc (.cells #[] 22)) := (Fr.refl _ w).alloc _
  have o0 := own_empty w 22 1 B hB
  rcases Nat.eq_zero_or_pos l.length with h0 | h0
  · have hl : l = [] := List.eq_nil_of_length_eq_zero h0
    subst hl
    refine ⟨w.heap.size, 0, _, fun ty => ?_, o0, f0⟩
    cases A with
    | none => exact run_append_nothing _ 23 23 ty 22 i0 Tryz.underlying23 hi _ 0 0 (Nat.le_refl _) _ (Src.ofNil _ Tryz.underlying23 c)
    | some a => exact run_append_nothing _ 23 23 ty 22 i0 Tryz.underlying23 hi _ 0 0 (Nat.le_refl _) _ (Src.ofSlice _ Tryz.underlying23 a 0 c [] (by simp) (by simp) (by simp))
  · obtain ⟨g, o, rfl, hg, hc⟩ := h4 h0
    have hr : ∀ ty, ∃ v' w', (Builtin.append_ #[23, 23] ty #[.slice (some ⟨w.heap.size, 0, none⟩) 0 0, .slice (some ⟨g, o, none⟩) l.length c]).run Tryz.prog (w.alloc (.cells #[] 22)) = .ok v' w' ∧ w'.ownsRow B 22 1 v' (0 + l.length) ([] ++ l.map U64) ∧ (w.alloc (.cells #[] 22)).grownBy w' (Value.slice (some ⟨w.heap.size, 0, none⟩) 0 0).ownBlock := fun ty => by
      obtain ⟨v', w', q1, q2, q3, _⟩ := run_append_own_at (P := Tryz.prog) (w.alloc (.cells #[] 22)) B 23 ty 22 i0 _ 1 8 Tryz.underlying23 hi hz0 hz1 hz2 rfl (by decide) _ 0 [] o0 ⟨g, o, none⟩ l.length c (l.map U64) (by simp) (fun j u hu => by
        have hj : j < l.length := by have := (List.getElem?_eq_some_iff.1 hu).1; simpa using this
        have e : (⟨g, o, none⟩ : Addr).add j = ⟨g, o + j, none⟩ := by cases j <;> simp [Addr.add]
        rw [e, (((Below.refl w.heap.size w).alloc (Nat.le_refl _) _).cell (p := ⟨g, o + j, none⟩) hg), hc j hj]
        rw [List.getElem?_map, List.getElem?_eq_getElem hj] at hu
        rw [List.getD_eq_getElem?_getD, List.getElem?_eq_getElem hj]
        exact hu) (fun u hu => by
        rw [List.mem_map] at hu
        obtain ⟨_, _, rfl⟩ := hu
        rfl) (by unfold maxLen; omega) (by omega) (by simp; omega)
      exact ⟨v', w', q1, q2, q3⟩
    obtain ⟨v', w', q1, q2, q3⟩ := hr 0
    rcases q2.2 with ⟨_, h9⟩ | ⟨g2, cap, cur, e, _⟩
    · omega
    · subst e
      rw [Nat.zero_add] at q1 q2
      refine ⟨g2, cap, w', fun ty => q1, q2, f0.trans_new (Fr.grownV q3) (fun i hi => ?_)⟩
      right
      simp only [Value.ownBlock, Option.some.injEq] at hi
      omega
/-- what To answers -/
def ToP (x : In) (w : World) (e : Ending) (w' : World) : Prop := Below w.heap.size w w' ∧ ∃ g c, e = .returned (.agg (I5 x (.slice (some ⟨g, 0, none⟩) x.l.length c)).toArray) ∧ w'.ownsRow w.heap.size 22 1 (.slice (some ⟨g, 0, none⟩) x.l.length c) x.l.length (x.l.map U64)
theorem step_store_row {P : Program} {ops : Array Oper} {o : Oper} {a : Act} {w : World} {K : Act → World → Prop} {Q : Exit → Act → World → Prop} {E : Prop} (hgd : o.guard = none) (ty : TypeId) (x y : Operand) (ho : o.op = .store ty x y)
    (g : Nat) (cells : Array Value) (hx : a.eval x = .pointer (some ⟨g, 0, none⟩)) (hy : a.eval y = .agg cells) (t : TypeId) (old : Array Value) (hg : Blk w g t old) (hi : (P.info? ty).map (·.size) = some cells.size) (hold : old.size = cells.size) (h1 : cells.all (·.oneCell') = true)
    (h : K (a.put o.dst undef) (w.setRow g cells)) : if Region.wanted o (yielded ops a.tmps) = true then Oper.wp P o a w K Q else E := by
  rw [if_pos (by simp [Region.wanted, hgd])]
  exact wp_store_row ty x y ho g cells hx hy t old hg hi hold h1 h
theorem fr_setRow (w : World) (g : Nat) (cs : Array Value) : Fr (fun k => k = g) w (w.setRow g cs) := ⟨rfl, rfl, rfl, by simp [World.setRow], fun i _ hs => setRow_other w g i cs (fun e => hs (by first | exact e | exact e.symm))⟩
theorem results9 : Tryz.f9.results = #[.cell 2 30] := by kernel_rfl
theorem info41b : (Tryz.prog.info? 30).map (·.size) = some 5 := by kernel_rfl
set_option maxHeartbeats 4000000 in
set_option maxRecDepth 100000 in
theorem To_ok (x : In) (A : Option Addr) (c : Nat) (w : World) (h : Sl w A x.l.length c x.l) (hn : x.l.length ≤ 200000) :
    Calls Tryz.prog 9 #[.agg (I5 x (.slice A x.l.length c)).toArray] w (ToP x w) := by
  obtain ⟨cd, a, b, al, l⟩ := x
  unfold I5
  dsimp only at h hn ⊢
  have hb0 : Below w.heap.size w (w.alloc (.cells #[.int .i64 cd, .int .u64 a, .int .u64 b, .int .i64 al, .slice A l.length c] 25)) := (Below.refl _ _).alloc (Nat.le_refl _) _
  have hP := Blk.new w 25 #[.int .i64 cd, .int .u64 a, .int .u64 b, .int .i64 al, .slice A l.length c]
  obtain ⟨W0, hW0⟩ : ∃ W, W = (w.alloc (.cells #[.int .i64 cd, .int .u64 a, .int .u64 b, .int .i64 al, .slice A l.length c] 25)).alloc (.cells #[.int .i64 0, .int .u64 0, .int .u64 0, .int .i64 0, .slice none 0 0] 30) := ⟨_, rfl⟩
  have hb : Below w.heap.size w W0 := by rw [hW0]; exact hb0.alloc hb0.size _
  have hP0 : Blk W0 w.heap.size 25 #[.int .i64 cd, .int .u64 a, .int .u64 b, .int .i64 al, .slice A l.length c] := by rw [hW0]; exact hP.alloc _
  have hR0 : Blk W0 (w.heap.size + 1) 30 #[.int .i64 0, .int .u64 0, .int .u64 0, .int .i64 0, .slice none 0 0] := by
    rw [hW0]
    have := Blk.new (w.alloc (.cells #[.int .i64 cd, .int .u64 a, .int .u64 b, .int .i64 al, .slice A l.length c] 25)) 30 #[.int .i64 0, .int .u64 0, .int .u64 0, .int .i64 0, .slice none 0 0]
    rw [World.size_alloc] at this
    exact this
  obtain ⟨g, cap, w3, hap, ho, hf⟩ := cpy w.heap.size W0.drew hb.size A l.length c l ((h.below hb).below ⟨rfl, rfl, rfl, Nat.le_refl _, fun _ _ => rfl⟩) hn
  have hP1 : Blk W0.drew w.heap.size 25 _ := hP0
  have hR1 : Blk W0.drew (w.heap.size + 1) 30 _ := hR0
  have hP2 : Blk (W0.drew.alloc (.cells #[] 22)) w.heap.size 25 _ := hP1.alloc _
  have hP3 := hP1.fr hf (fun h => h)
  have hR3 := hR1.fr hf (fun h => h)
  have hb3 : Below w.heap.size w w3 := hf.below (below_drew hb) hb.size (fun k hk => hk.elim)
  have HAP := Lib.hid hap
  have HO := Lib.hid ho
  have HB := Lib.hid hb3
  have HR := Lib.hid hR3
  have k0 : (fun W : World => W.cell? ⟨w.heap.size, 0, none⟩ = some (.int .i64 cd) ∧ W.cell? ⟨w.heap.size, 1, none⟩ = some (.int .u64 a) ∧ W.cell? ⟨w.heap.size, 2, none⟩ = some (.int .u64 b) ∧ W.cell? ⟨w.heap.size, 3, none⟩ = some (.int .i64 al) ∧ W.cell? ⟨w.heap.size, 4, none⟩ = some (.slice A l.length c)) W0.drew := ⟨hP1.cell 0, hP1.cell 1, hP1.cell 2, hP1.cell 3, hP1.cell 4⟩
  have k2 : (fun W : World => W.cell? ⟨w.heap.size, 0, none⟩ = some (.int .i64 cd) ∧ W.cell? ⟨w.heap.size, 1, none⟩ = some (.int .u64 a) ∧ W.cell? ⟨w.heap.size, 2, none⟩ = some (.int .u64 b) ∧ W.cell? ⟨w.heap.size, 3, none⟩ = some (.int .i64 al) ∧ W.cell? ⟨w.heap.size, 4, none⟩ = some (.slice A l.length c)) (W0.drew.alloc (.cells #[] 22)) := ⟨hP2.cell 0, hP2.cell 1, hP2.cell 2, hP2.cell 3, hP2.cell 4⟩
  have k3 : (fun W : World => W.cell? ⟨w.heap.size, 0, none⟩ = some (.int .i64 cd) ∧ W.cell? ⟨w.heap.size, 1, none⟩ = some (.int .u64 a) ∧ W.cell? ⟨w.heap.size, 2, none⟩ = some (.int .u64 b) ∧ W.cell? ⟨w.heap.size, 3, none⟩ = some (.int .i64 al) ∧ W.cell? ⟨w.heap.size, 4, none⟩ = some (.slice A l.length c)) w3 := ⟨hP3.cell 0, hP3.cell 1, hP3.cell 2, hP3.cell 3, hP3.cell 4⟩
  have KE := Lib.hid k0
  have KF := Lib.hid k2
  have KG := Lib.hid k3
  have k4 : (fun W : World => W.cell? ⟨w.heap.size, 0, none⟩ = some (.int .i64 cd) ∧ W.cell? ⟨w.heap.size, 1, none⟩ = some (.int .u64 a) ∧ W.cell? ⟨w.heap.size, 2, none⟩ = some (.int .u64 b) ∧ W.cell? ⟨w.heap.size, 3, none⟩ = some (.int .i64 al) ∧ W.cell? ⟨w.heap.size, 4, none⟩ = some (.slice A l.length c)) (w3.setRow (w.heap.size + 1) #[.int .i64 cd, .int .u64 a, .int .u64 b, .int .i64 al, .slice (some ⟨g, 0, none⟩) l.length cap]) := by
    have hP4 : Blk (w3.setRow (w.heap.size + 1) #[.int .i64 cd, .int .u64 a, .int .u64 b, .int .i64 al, .slice (some ⟨g, 0, none⟩) l.length cap]) w.heap.size 25 _ := (setRow_other w3 (w.heap.size + 1) w.heap.size _ (by omega)).trans hP3
    exact ⟨hP4.cell 0, hP4.cell 1, hP4.cell 2, hP4.cell 3, hP4.cell 4⟩
  have KH := Lib.hid k4
  clear k4
  have HW0 := Lib.hid hW0
  clear hap ho hb hb3 hb0 hP hP0 hR0 hP1 hR1 hP2 hP3 hR3 hf h hn k0 k2 k3 hW0
  go_enter Tryz.func9, Tryz.ntmps9
  go_upto_region 1 with fail
  rw [← HW0.out]
  refine wp_region_held_drew (S := (fun W : World => W.cell? ⟨w.heap.size, 0, none⟩ = some (.int .i64 cd) ∧ W.cell? ⟨w.heap.size, 1, none⟩ = some (.int .u64 a) ∧ W.cell? ⟨w.heap.size, 2, none⟩ = some (.int .u64 b) ∧ W.cell? ⟨w.heap.size, 3, none⟩ = some (.int .i64 al) ∧ W.cell? ⟨w.heap.size, 4, none⟩ = some (.slice A l.length c))) (by kernel_rfl) KE.out (fun hHeld => ?_)
  refine wpAnyH_take (i := 0) (oi := ?oi_1) (v := ?_) ?hi_1 (by kernel_rfl) ?hf_1 (by kernel_rfl) ?hQ_1 ?hy_1 (by assumption) ?_
  case hi_1 => simp only [List.getElem?_toArray, List.getElem?_cons_zero, List.getElem?_cons_succ]; rfl
  case hf_1 => kernel_rfl
  case hQ_1 => exact fun _ _ _ h => h
  case hy_1 =>
    refine Or.inl ⟨by rfl, ?_⟩
    intro W hSw
    obtain ⟨q0, q1, q2, q3, q4⟩ := hSw
    go_simp
    try with_reducible rfl
  try simp only [Act.put, List.setIfInBounds_toArray, List.set_cons_zero, List.set_cons_succ]
  refine wpAnyH_take (i := 1) (oi := ?oi_2) (v := ?_) ?hi_2 (by kernel_rfl) ?hf_2 (by kernel_rfl) ?hQ_2 ?hy_2 (by assumption) ?_
  case hi_2 => simp only [List.getElem?_toArray, List.getElem?_cons_zero, List.getElem?_cons_succ]; rfl
  case hf_2 => kernel_rfl
  case hQ_2 => exact fun _ _ _ h => h
  case hy_2 =>
    refine Or.inl ⟨by rfl, ?_⟩
    intro W hSw
    obtain ⟨q0, q1, q2, q3, q4⟩ := hSw
    go_simp
    try with_reducible rfl
  try simp only [Act.put, List.setIfInBounds_toArray, List.set_cons_zero, List.set_cons_succ]
  refine wpAnyH_take (i := 2) (oi := ?oi_3) (v := ?_) ?hi_3 (by kernel_rfl) ?hf_3 (by kernel_rfl) ?hQ_3 ?hy_3 (by assumption) ?_
  case hi_3 => simp only [List.getElem?_toArray, List.getElem?_cons_zero, List.getElem?_cons_succ]; rfl
  case hf_3 => kernel_rfl
  case hQ_3 => exact fun _ _ _ h => h
  case hy_3 =>
    refine Or.inl ⟨by rfl, ?_⟩
    intro W hSw
    obtain ⟨q0, q1, q2, q3, q4⟩ := hSw
    go_simp
    try with_reducible rfl
  try simp only [Act.put, List.setIfInBounds_toArray, List.set_cons_zero, List.set_cons_succ]
  refine wpAnyH_take (i := 3) (oi := ?oi_4) (v := ?_) ?hi_4 (by kernel_rfl) ?hf_4 (by kernel_rfl) ?hQ_4 ?hy_4 (by assumption) ?_
  case hi_4 => simp only [List.getElem?_toArray, List.getElem?_cons_zero, List.getElem?_cons_succ]; rfl
  case hf_4 => kernel_rfl
  case hQ_4 => exact fun _ _ _ h => h
  case hy_4 =>
    refine Or.inl ⟨by rfl, ?_⟩
    intro W hSw
    obtain ⟨q0, q1, q2, q3, q4⟩ := hSw
    go_simp
    try with_reducible rfl
  try simp only [Act.put, List.setIfInBounds_toArray, List.set_cons_zero, List.set_cons_succ]
  refine wpAnyH_take (i := 4) (oi := ?oi_5) (v := ?_) ?hi_5 (by kernel_rfl) ?hf_5 (by kernel_rfl) ?hQ_5 ?hy_5 (by assumption) ?_
  case hi_5 => simp only [List.getElem?_toArray, List.getElem?_cons_zero, List.getElem?_cons_succ]; rfl
  case hf_5 => kernel_rfl
  case hQ_5 => exact fun _ _ _ h => h
  case hy_5 =>
    refine Or.inl ⟨by rfl, ?_⟩
    intro W hSw
    obtain ⟨q0, q1, q2, q3, q4⟩ := hSw
    go_simp
    try with_reducible rfl
  try simp only [Act.put, List.setIfInBounds_toArray, List.set_cons_zero, List.set_cons_succ]
  refine wpAnyH_take (i := 5) (oi := ?oi_6) (v := ?_) ?hi_6 (by kernel_rfl) ?hf_6 (by kernel_rfl) ?hQ_6 ?hy_6 (by assumption) ?_
  case hi_6 => simp only [List.getElem?_toArray, List.getElem?_cons_zero, List.getElem?_cons_succ]; rfl
  case hf_6 => kernel_rfl
  case hQ_6 => exact fun _ _ _ h => h
  case hy_6 =>
    refine Or.inl ⟨by rfl, ?_⟩
    intro W hSw
    obtain ⟨q0, q1, q2, q3, q4⟩ := hSw
    go_simp
    try with_reducible rfl
  try simp only [Act.put, List.setIfInBounds_toArray, List.set_cons_zero, List.set_cons_succ]
  refine wpAnyH_take (i := 6) (oi := ?oi_7) (v := ?_) ?hi_7 (by kernel_rfl) ?hf_7 (by kernel_rfl) ?hQ_7 ?hy_7 (by assumption) ?_
  case hi_7 => simp only [List.getElem?_toArray, List.getElem?_cons_zero, List.getElem?_cons_succ]; rfl
  case hf_7 => kernel_rfl
  case hQ_7 => exact fun _ _ _ h => h
  case hy_7 =>
    refine Or.inl ⟨by rfl, ?_⟩
    intro W hSw
    obtain ⟨q0, q1, q2, q3, q4⟩ := hSw
    go_simp
    try with_reducible rfl
  try simp only [Act.put, List.setIfInBounds_toArray, List.set_cons_zero, List.set_cons_succ]
  refine wpAnyH_take (i := 7) (oi := ?oi_8) (v := ?_) ?hi_8 (by kernel_rfl) ?hf_8 (by kernel_rfl) ?hQ_8 ?hy_8 (by assumption) ?_
  case hi_8 => simp only [List.getElem?_toArray, List.getElem?_cons_zero, List.getElem?_cons_succ]; rfl
  case hf_8 => kernel_rfl
  case hQ_8 => exact fun _ _ _ h => h
  case hy_8 =>
    refine Or.inl ⟨by rfl, ?_⟩
    intro W hSw
    obtain ⟨q0, q1, q2, q3, q4⟩ := hSw
    go_simp
    try with_reducible rfl
  try simp only [Act.put, List.setIfInBounds_toArray, List.set_cons_zero, List.set_cons_succ]
  refine wpAnyH_take (i := 9) (oi := ?oi_9) (v := ?_) ?hi_9 (by kernel_rfl) ?hf_9 (by kernel_rfl) ?hQ_9 ?hy_9 (by assumption) ?_
  case hi_9 => simp only [List.getElem?_toArray, List.getElem?_cons_zero, List.getElem?_cons_succ]; rfl
  case hf_9 => kernel_rfl
  case hQ_9 => exact fun _ _ _ h => h
  case hy_9 =>
    refine Or.inl ⟨by rfl, ?_⟩
    intro W hSw
    obtain ⟨q0, q1, q2, q3, q4⟩ := hSw
    go_simp
    try with_reducible rfl
  try simp only [Act.put, List.setIfInBounds_toArray, List.set_cons_zero, List.set_cons_succ]
  refine wpAnyH_take (i := 10) (oi := ?oi_10) (v := ?_) ?hi_10 (by kernel_rfl) ?hf_10 (by kernel_rfl) ?hQ_10 ?hy_10 (by assumption) ?_
  case hi_10 => simp only [List.getElem?_toArray, List.getElem?_cons_zero, List.getElem?_cons_succ]; rfl
  case hf_10 => kernel_rfl
  case hQ_10 => exact fun _ _ _ h => h
  case hy_10 =>
    refine Or.inl ⟨by rfl, ?_⟩
    intro W hSw
    obtain ⟨q0, q1, q2, q3, q4⟩ := hSw
    go_simp
    try with_reducible rfl
  try simp only [Act.put, List.setIfInBounds_toArray, List.set_cons_zero, List.set_cons_succ]
  refine wpAnyH_ready (rs := [8]) (by kernel_rfl) (by simp) ?_
  refine AllReadyH.cons (o := ?oi_11) ?hi_11 (fun K hK => ?_) AllReadyH.nil
  case hi_11 => simp only [List.getElem?_toArray, List.getElem?_cons_zero, List.getElem?_cons_succ]; rfl
  go_simp
  refine hK.out _ _ KF.out (fun hHeld => ?_)
  clear hK K
  try simp only [Act.put, List.setIfInBounds_toArray, List.set_cons_zero, List.set_cons_succ]
  refine wpAnyH_ready (rs := [11]) (by kernel_rfl) (by simp) ?_
  refine AllReadyH.cons (o := ?oi_12) ?hi_12 (fun K hK => ?_) AllReadyH.nil
  case hi_12 => simp only [List.getElem?_toArray, List.getElem?_cons_zero, List.getElem?_cons_succ]; rfl
  refine step_append_run rfl (.tmp 11) (.tmp 13) 23 rfl (.slice (some ⟨W0.drew.heap.size, 0, none⟩) 0 0) (.slice A l.length c) (.slice (some ⟨g, 0, none⟩) l.length cap) w3 rfl rfl HAP ?_
  refine hK.out _ _ KG.out (fun hHeld => ?_)
  clear hK K
  try simp only [Act.put, List.setIfInBounds_toArray, List.set_cons_zero, List.set_cons_succ]
  refine wpAnyH_take (i := 12) (oi := ?oi_13) (v := ?_) ?hi_13 (by kernel_rfl) ?hf_13 (by kernel_rfl) ?hQ_13 ?hy_13 (by assumption) ?_
  case hi_13 => simp only [List.getElem?_toArray, List.getElem?_cons_zero, List.getElem?_cons_succ]; rfl
  case hf_13 => kernel_rfl
  case hQ_13 => exact fun _ _ _ h => h
  case hy_13 =>
    refine Or.inl ⟨by rfl, ?_⟩
    intro W hSw
    obtain ⟨q0, q1, q2, q3, q4⟩ := hSw
    go_simp
    try with_reducible rfl
  try simp only [Act.put, List.setIfInBounds_toArray, List.set_cons_zero, List.set_cons_succ]
  refine wpAnyH_ready (rs := [13]) (by kernel_rfl) (by simp) ?_
  refine AllReadyH.cons (o := ?oi_14) ?hi_14 (fun K hK => ?_) AllReadyH.nil
  case hi_14 => simp only [List.getElem?_toArray, List.getElem?_cons_zero, List.getElem?_cons_succ]; rfl
  refine step_store_row rfl 30 (.tmp 2) (.tmp 15) rfl (w.heap.size + 1) #[.int .i64 cd, .int .u64 a, .int .u64 b, .int .i64 al, .slice (some ⟨g, 0, none⟩) l.length cap] rfl rfl 30 _ HR.out (by kernel_rfl) rfl (by simp [Value.oneCell']) ?_
  refine hK.out _ _ KH.out (fun hHeld => ?_)
  clear hK K
  try simp only [Act.put, List.setIfInBounds_toArray, List.set_cons_zero, List.set_cons_succ]
  refine wpAnyH_done (by kernel_rfl) ?_ _
  clear hHeld
  go_wp2
  refine bodyPost_ret (v := .agg #[.int .i64 cd, .int .u64 a, .int .u64 b, .int .i64 al, .slice (some ⟨g, 0, none⟩) l.length cap]) (results_cell_row results9 _ _ (w.heap.size + 1) 30 _ (0, 0) _ rfl (setRow_heap w3 (w.heap.size + 1) _ _ 30 (0, 0) HR.out) Tryz.underlying30 rfl (by kernel_rfl)) rfl ?_
  refine ⟨below_setRow HB.out (by omega) _, g, cap, rfl, own_fr HO.out (fr_setRow w3 (w.heap.size + 1) _) (fun k hk e => ?_)⟩
  obtain ⟨cs, hcs⟩ := own_ty HO.out hk
  exact hcs.ne_ HR.out (by decide) e
end Go.Proofs.YtggfaalodojjkaaGreatDoor
namespace Go.Proofs.YtggfaalodojjkaaGreatDoor
set_option linter.unusedVariables false
set_option linter.unusedSimpArgs false
/-- a digit's value, as the document reads it -/
def dv (c : UInt8) : Nat := if 48 ≤ c.toNat ∧ c.toNat ≤ 57 then c.toNat - 48 else if 97 ≤ c.toNat ∧ c.toNat ≤ 102 then c.toNat - 87 else 99
/-- the document's reading on -/
def rdg (b most : Nat) : Nat → List UInt8 → Option Nat
  | v, [] => some v
  | v, c :: r => if b ≤ dv c ∨ (most - dv c) / b < v then none else rdg b most (b * v + dv c) r
def rdB (b most : Nat) (s : List UInt8) : Option Nat := if s = [] ∨ (1 < s.length ∧ s.getD 0 0 = 48) then none else rdg b most 0 s
def isD (s : List UInt8) : Bool := s.all fun c => decide (48 ≤ c.toNat ∧ c.toNat ≤ 57)
def ev (v : Nat) (s : List UInt8) : Nat := s.foldl (fun v c => 10 * v + (c.toNat - 48)) v
theorem ev_cons (v : Nat) (c : UInt8) (r : List UInt8) : ev v (c :: r) = ev (10 * v + (c.toNat - 48)) r := by unfold ev; rw [List.foldl_cons]
theorem ev_nil (v : Nat) : ev v [] = v := by unfold ev; rw [List.foldl_nil]
theorem ev_ge : ∀ (s : List UInt8) (v : Nat), v ≤ ev v s
  | [], v => by rw [ev_nil]; exact Nat.le_refl _
  | c :: r, v => by
    rw [ev_cons]
    exact Nat.le_trans (by omega) (ev_ge r (10 * v + (c.toNat - 48)))
theorem ev_snoc (s : List UInt8) (c : UInt8) (v : Nat) : ev v (s ++ [c]) = 10 * ev v s + (c.toNat - 48) := by
  unfold ev; rw [List.foldl_append]; rfl
theorem rdg_eq (M : Nat) (hM : 9 ≤ M) (s : List UInt8) : ∀ v, v ≤ M → rdg 10 M v s = if isD s = true ∧ ev v s ≤ M then some (ev v s) else none := by
  induction s with
  | nil => intro v hv; rw [rdg, ev_nil]; simp [isD, hv]
  | cons c r ih =>
    intro v hv
    rw [rdg]
    by_cases hd : 48 ≤ c.toNat ∧ c.toNat ≤ 57
    · have e : dv c = c.toNat - 48 := by unfold dv; rw [if_pos hd]
      have hD : isD (c :: r) = isD r := by unfold isD; simp [hd]
      rw [hD]
      by_cases hq : 10 * v + (c.toNat - 48) ≤ M
      · rw [if_neg (by rw [e]; omega), e, ih _ hq, ev_cons]
      · rw [if_pos (by rw [e]; omega), if_neg]
        rintro ⟨_, h⟩
        have := ev_ge r (10 * v + (c.toNat - 48))
        rw [ev_cons] at h; omega
    · have hD : isD (c :: r) = false := by unfold isD; simp [hd]
      have e : 10 ≤ dv c := by unfold dv; rw [if_neg hd]; split <;> omega
      rw [if_pos (.inl e), hD, if_neg (by simp)]
theorem dig_nat (d : Nat) (h : d < 10) : (UInt8.ofNat (48 + d)).toNat = 48 + d := UInt8.toNat_ofNat_of_lt' (by show 48 + d < 256; omega)
theorem dec_facts : ∀ n, isD (Lib.decDigits n) = true ∧ ev 0 (Lib.decDigits n) = n ∧ Lib.decDigits n ≠ [] ∧ (0 < n → (Lib.decDigits n).getD 0 0 ≠ 48) := by
  intro n
  induction n using Nat.strongRecOn with
  | ind n ih =>
    by_cases h : n < 10
    · rw [Lib.decDigits_one h]
      have hd := dig_nat n h
      refine ⟨by simp [isD]; omega, by rw [ev_cons, ev_nil, hd]; omega, by simp, fun h0 e => ?_⟩
      have h2 : UInt8.ofNat (48 + n) = 48 := by simpa using e
      have := congrArg UInt8.toNat h2
      rw [hd] at this; simp at this; omega
    · obtain ⟨h1, h2, h3, h4⟩ := ih (n / 10) (by omega)
      rw [Lib.decDigits, dif_neg h]
      have hd := dig_nat (n % 10) (by omega)
      refine ⟨?_, ?_, by simp, fun _ => ?_⟩
      · unfold isD at h1 ⊢; rw [List.all_append, h1]; simp; omega
      · rw [ev_snoc, h2, hd]; omega
      · have h5 := h4 (by omega)
        revert h3 h5
        cases Lib.decDigits (n / 10) with
        | nil => simp
        | cons a l => simp
theorem dec_unique (s : List UInt8) (hD : isD s = true) (h0 : s ≠ []) (hz : ¬ (1 < s.length ∧ s.getD 0 0 = 48)) : s = Lib.decDigits (ev 0 s) := by
  obtain ⟨n, hn⟩ : ∃ n, n = s.length := ⟨_, rfl⟩
  induction n generalizing s with
  | zero => exact absurd (List.length_eq_zero_iff.1 hn.symm) h0
  | succ n ih =>
    obtain ⟨t, c, rfl⟩ : ∃ t c, s = t ++ [c] := ⟨s.dropLast, s.getLast h0, (List.dropLast_concat_getLast h0).symm⟩
    have hD2 : isD t = true ∧ (48 ≤ c.toNat ∧ c.toNat ≤ 57) := by
      unfold isD at hD ⊢; rw [List.all_append, Bool.and_eq_true] at hD
      exact ⟨hD.1, by simpa using hD.2⟩
    rw [ev_snoc]
    have hc : UInt8.ofNat (48 + (c.toNat - 48)) = c := by
      rw [show 48 + (c.toNat - 48) = c.toNat by omega]; simp
    by_cases ht : t = []
    · subst ht
      rw [ev_nil, List.nil_append, Nat.mul_zero, Nat.zero_add]
      rw [Lib.decDigits_one (by omega), hc]
    · have htl : 0 < t.length := List.length_pos_iff.2 ht
      have hg : (t ++ [c]).getD 0 0 = t.getD 0 0 := by
        cases t with
        | nil => exact absurd rfl ht
        | cons a l => rfl
      have hz2 : t.getD 0 0 ≠ 48 := fun e => hz ⟨by simp; omega, by rw [hg]; exact e⟩
      have hi := ih t hD2.1 ht (fun h => hz2 h.2) (by simp at hn; omega)
      have hm : ev 0 t ≠ 0 := by
        intro e
        rw [e] at hi
        rw [Lib.decDigits_one (by decide)] at hi
        rw [hi] at hz2
        exact hz2 rfl
      rw [Lib.decDigits, dif_neg (by omega), show (10 * ev 0 t + (c.toNat - 48)) / 10 = ev 0 t by omega, show (10 * ev 0 t + (c.toNat - 48)) % 10 = c.toNat - 48 by omega, ← hi, hc]
theorem dec_len : ∀ k n, n < 10 ^ (k + 1) → (Lib.decDigits n).length ≤ k + 1 := by
  intro k
  induction k with
  | zero => intro n h; rw [Lib.decDigits_one (by simpa using h)]; simp
  | succ k ih =>
    intro n h
    by_cases h10 : n < 10
    · rw [Lib.decDigits_one h10]; simp
    · rw [Lib.decDigits, dif_neg h10, List.length_append]
      have := ih (n / 10) (by rw [Nat.div_lt_iff_lt_mul (by decide)]; rw [Nat.pow_succ] at h; exact h)
      simp; omega

theorem pm_of (M : Nat) (hM : M < 18446744073709551616) : ∀ (l : List UInt8) (acc : Nat), isD l = true → ev acc l ≤ M → Lib.parseUintM M acc l = .ok (ev acc l) := by
  intro l
  induction l with
  | nil => intro acc _ _; rw [ev_nil]; rfl
  | cons c r ih =>
    intro acc hD hv
    have hd : 48 ≤ c.toNat ∧ c.toNat ≤ 57 := by unfold isD at hD; simp at hD; exact hD.1
    have hr : isD r = true := by unfold isD at hD ⊢; rw [List.all_cons, Bool.and_eq_true] at hD; exact hD.2
    have h2 := ev_ge r (10 * acc + (c.toNat - 48))
    rw [ev_cons] at hv
    rw [ev_cons]
    simp only [Lib.parseUintM]
    rw [if_pos hd, if_neg (by omega), if_neg (by omega), show acc * 10 + (c.toNat - 48) = 10 * acc + (c.toNat - 48) by omega]
    exact ih _ hr hv
theorem pm_le (M : Nat) : ∀ (l : List UInt8) (acc u : Nat), acc ≤ M → Lib.parseUintM M acc l = .ok u → u ≤ M := by
  intro l
  induction l with
  | nil => intro acc u h e; simp only [Lib.parseUintM] at e; injection e with e; omega
  | cons c r ih =>
    intro acc u h e
    simp only [Lib.parseUintM] at e
    split at e
    · split at e
      · cases e
      · split at e
        · cases e
        · exact ih _ _ (by omega) e
    · cases e
/-- a numeral in tens, at most M, is just that: read -/
theorem rd10_iff (M : Nat) (h9 : 9 ≤ M) (s : List UInt8) (n : Nat) : rdB 10 M s = some n ↔ (s = Lib.decDigits n ∧ n ≤ M) := by
  constructor
  · intro h
    unfold rdB at h
    split at h
    · cases h
    · rename_i h0
      rw [rdg_eq _ h9 _ _ (Nat.zero_le _)] at h
      split at h
      · rename_i h1
        cases h
        exact ⟨dec_unique s h1.1 (fun e => h0 (.inl e)) (fun e => h0 (.inr e)), h1.2⟩
      · cases h
  · rintro ⟨rfl, h⟩
    obtain ⟨h1, h2, h3, h4⟩ := dec_facts n
    unfold rdB
    rw [if_neg, rdg_eq _ h9 _ _ (Nat.zero_le _), if_pos ⟨h1, by rw [h2]; exact h⟩, h2]
    rintro (e | ⟨e1, e2⟩)
    · exact h3 e
    · by_cases h0 : 0 < n
      · exact h4 h0 e2
      · obtain rfl : n = 0 := by omega
        rw [Lib.decDigits_one (by decide)] at e1; simp at e1
/-- what ParseUint tells in tens, and whether it is told so again -/
theorem pu10 (B : Nat) (hB : B = 32 ∨ B = 64) (s : List UInt8) : (∀ u, Lib.parseUintB B s = .ok u → (decide (Lib.decDigits u = s) = (rdB 10 (2 ^ B - 1) s).isSome) ∧ ∀ n, rdB 10 (2 ^ B - 1) s = some n → u = n) ∧ ((∀ u, Lib.parseUintB B s ≠ .ok u) → rdB 10 (2 ^ B - 1) s = none) := by
  have h9 : 9 ≤ 2 ^ B - 1 := by rcases hB with rfl | rfl <;> decide
  have hM : 2 ^ B - 1 < 18446744073709551616 := by rcases hB with rfl | rfl <;> decide
  have key : ∀ n, rdB 10 (2 ^ B - 1) s = some n → Lib.parseUintB B s = .ok n := fun n h => by
    obtain ⟨rfl, hn⟩ := (rd10_iff _ h9 s n).1 h
    obtain ⟨h1, h2, h3, _⟩ := dec_facts n
    unfold Lib.parseUintB
    rw [if_neg h3]
    have := pm_of (2 ^ B - 1) hM _ 0 h1 (by rw [h2]; exact hn)
    rw [h2] at this; exact this
  refine ⟨fun u h => ⟨?_, fun n hn => ?_⟩, fun h => ?_⟩
  · have hu : u ≤ 2 ^ B - 1 := by
      unfold Lib.parseUintB at h
      split at h
      · cases h
      · exact pm_le _ _ _ _ (Nat.zero_le _) h
    rw [Bool.eq_iff_iff, decide_eq_true_iff, Option.isSome_iff_exists]
    constructor
    · intro e; exact ⟨u, (rd10_iff _ h9 s u).2 ⟨e.symm, hu⟩⟩
    · rintro ⟨n, hn⟩
      have := key n hn
      rw [h] at this; injection this with this
      rw [this]; exact ((rd10_iff _ h9 s n).1 hn).1.symm
  · have := key n hn
    rw [h] at this; injection this
  · cases hn : rdB 10 (2 ^ B - 1) s with
    | none => rfl
    | some n => exact absurd (key n hn) (h n)
/-- the number with a sign, of so many bits, that a text tells -/
def rdI (B : Nat) (s : List UInt8) : Option Int := match Lib.parseIntB B s with
  | .ok v => if Lib.itoa v = s then some v else none
  | _ => none
theorem pi_of (B : Nat) (hB : B = 32 ∨ B = 64) (v : Int) (h0 : -(2 ^ (B - 1) : Nat) ≤ v) (h1 : v < (2 ^ (B - 1) : Nat)) : Lib.parseIntB B (Lib.itoa v) = .ok v := by
  have hM : 2 ^ B - 1 < 18446744073709551616 := by rcases hB with rfl | rfl <;> decide
  have hP : 2 ^ B = 2 * 2 ^ (B - 1) := by rcases hB with rfl | rfl <;> rfl
  have hpos : 0 < 2 ^ (B - 1) := Nat.two_pow_pos _
  have key : ∀ n, n ≤ 2 ^ B - 1 → Lib.parseUintB B (Lib.decDigits n) = .ok n := fun n hn => by
    obtain ⟨q1, q2, q3, _⟩ := dec_facts n
    unfold Lib.parseUintB
    rw [if_neg q3]
    have := pm_of (2 ^ B - 1) hM _ 0 q1 (by rw [q2]; exact hn)
    rw [q2] at this; exact this
  by_cases hn : 0 ≤ v
  · obtain ⟨n, rfl⟩ : ∃ n : Nat, v = (n : Int) := ⟨v.toNat, by omega⟩
    rw [Lib.itoa_nonneg]
    have hk := key n (by omega)
    obtain ⟨q1, q2, q3, _⟩ := dec_facts n
    revert hk q1 q3
    generalize Lib.decDigits n = s
    intro hk q1 q3
    cases s with
    | nil => exact absurd rfl q3
    | cons c r =>
      have hd : 48 ≤ c.toNat ∧ c.toNat ≤ 57 := by unfold isD at q1; simp at q1; exact q1.1
      unfold Lib.parseIntB
      simp only []
      rw [if_neg (show ¬ (c.toNat = 43 ∨ c.toNat = 45) by omega), hk]
      simp only []
      rw [if_neg (by omega), if_neg (by omega), if_neg (by omega)]
  · obtain ⟨n, rfl, hn1⟩ : ∃ n : Nat, v = -(n : Int) ∧ 1 ≤ n := ⟨(-v).toNat, by omega, by omega⟩
    rw [Lib.itoa_neg n hn1]
    have hk := key n (by omega)
    unfold Lib.parseIntB
    simp only []
    have e45 : (45 : UInt8).toNat = 45 := rfl
    rw [if_pos (show ((45 : UInt8).toNat = 43 ∨ (45 : UInt8).toNat = 45) from .inr rfl), hk]
    simp only []
    rw [if_neg (by simp), if_neg (by omega), if_pos e45]
theorem pi_range (B : Nat) (hB : B = 32 ∨ B = 64) (s : List UInt8) (v : Int) (h : Lib.parseIntB B s = .ok v) : -(2 ^ (B - 1) : Nat) ≤ v ∧ v < (2 ^ (B - 1) : Nat) := by
  have hpos : 0 < 2 ^ (B - 1) := Nat.two_pow_pos _
  unfold Lib.parseIntB at h
  cases s with
  | nil => cases h
  | cons c r =>
    simp only [] at h
    split at h
    · cases h
    · cases h
    · split at h
      · cases h
      · split at h
        · cases h
        · rename_i h1 h2
          injection h with h
          by_cases q : c.toNat = 45
          · rw [if_pos q] at h; omega
          · rw [if_neg q] at h; omega
theorem rdI_iff (B : Nat) (hB : B = 32 ∨ B = 64) (s : List UInt8) (v : Int) : rdI B s = some v ↔ (s = Lib.itoa v ∧ -(2 ^ (B - 1) : Nat) ≤ v ∧ v < (2 ^ (B - 1) : Nat)) := by
  constructor
  · intro h
    unfold rdI at h
    split at h
    · rename_i u hu
      split at h
      · rename_i e
        injection h with h
        subst h
        exact ⟨e.symm, pi_range B hB s u hu⟩
      · cases h
    · cases h
  · rintro ⟨rfl, h0, h1⟩
    unfold rdI
    rw [pi_of B hB v h0 h1]
    simp
/-! in sixteens -/
def hxD (d : Nat) : UInt8 := UInt8.ofNat (if d < 10 then 48 + d else 87 + d)
def hexDigits (n : Nat) : List UInt8 := if h : n < 16 then [hxD n] else hexDigits (n / 16) ++ [hxD (n % 16)]
termination_by n
theorem hex_one {n : Nat} (h : n < 16) : hexDigits n = [hxD n] := by rw [hexDigits, dif_pos h]
theorem hxD_nat (d : Nat) (h : d < 16) : (hxD d).toNat = if d < 10 then 48 + d else 87 + d := by
  unfold hxD
  rw [UInt8.toNat_ofNat_of_lt' (by show _ < 256; split <;> omega)]
theorem dv_hx (d : Nat) (h : d < 16) : dv (hxD d) = d := by
  unfold dv
  rw [hxD_nat d h]
  by_cases q : d < 10
  · rw [if_pos q, if_pos (by omega)]; omega
  · rw [if_neg q, if_neg (by omega), if_pos (by omega)]; omega
theorem hx_dv (c : UInt8) (h : dv c < 16) : hxD (dv c) = c := by
  apply UInt8.toNat_inj.1
  rw [hxD_nat _ h]
  unfold dv at h ⊢
  by_cases q : 48 ≤ c.toNat ∧ c.toNat ≤ 57
  · rw [if_pos q]; rw [if_pos (by omega)]; omega
  · rw [if_neg q] at h ⊢
    by_cases r : 97 ≤ c.toNat ∧ c.toNat ≤ 102
    · rw [if_pos r]; rw [if_neg (by omega)]; omega
    · rw [if_neg r] at h; omega
def isH (s : List UInt8) : Bool := s.all fun c => decide (dv c < 16)
def eh (v : Nat) (s : List UInt8) : Nat := s.foldl (fun v c => 16 * v + dv c) v
theorem eh_cons (v : Nat) (c : UInt8) (r : List UInt8) : eh v (c :: r) = eh (16 * v + dv c) r := by unfold eh; rw [List.foldl_cons]
theorem eh_nil (v : Nat) : eh v [] = v := by unfold eh; rw [List.foldl_nil]
theorem eh_ge : ∀ (s : List UInt8) (v : Nat), v ≤ eh v s
  | [], v => by rw [eh_nil]; exact Nat.le_refl _
  | c :: r, v => by
    rw [eh_cons]
    exact Nat.le_trans (by omega) (eh_ge r (16 * v + dv c))
theorem eh_snoc (s : List UInt8) (c : UInt8) (v : Nat) : eh v (s ++ [c]) = 16 * eh v s + dv c := by
  unfold eh; rw [List.foldl_append]; rfl
theorem rdh_eq (M : Nat) (hM : 15 ≤ M) (s : List UInt8) : ∀ v, v ≤ M → rdg 16 M v s = if isH s = true ∧ eh v s ≤ M then some (eh v s) else none := by
  induction s with
  | nil => intro v hv; rw [rdg, eh_nil]; simp [isH, hv]
  | cons c r ih =>
    intro v hv
    rw [rdg]
    by_cases hd : dv c < 16
    · have hD : isH (c :: r) = isH r := by unfold isH; simp [hd]
      rw [hD]
      by_cases hq : 16 * v + dv c ≤ M
      · rw [if_neg (by omega), ih _ hq, eh_cons]
      · rw [if_pos (by omega), if_neg]
        rintro ⟨_, h⟩
        have := eh_ge r (16 * v + dv c)
        rw [eh_cons] at h; omega
    · have hD : isH (c :: r) = false := by unfold isH; simp [hd]
      rw [if_pos (.inl (by omega)), hD, if_neg (by simp)]
theorem hex_facts : ∀ n, isH (hexDigits n) = true ∧ eh 0 (hexDigits n) = n ∧ hexDigits n ≠ [] ∧ (0 < n → (hexDigits n).getD 0 0 ≠ 48) := by
  intro n
  induction n using Nat.strongRecOn with
  | ind n ih =>
    by_cases h : n < 16
    · rw [hex_one h]
      have hd := dv_hx n h
      refine ⟨by simp [isH, hd, h], by rw [eh_cons, eh_nil, hd]; omega, by simp, fun h0 e => ?_⟩
      have h2 : hxD n = 48 := by simpa using e
      have := congrArg UInt8.toNat h2
      rw [hxD_nat n h] at this
      simp at this
      split at this <;> omega
    · obtain ⟨h1, h2, h3, h4⟩ := ih (n / 16) (by omega)
      rw [hexDigits, dif_neg h]
      have hd := dv_hx (n % 16) (by omega)
      refine ⟨?_, ?_, by simp, fun _ => ?_⟩
      · unfold isH at h1 ⊢; rw [List.all_append, h1]; simp [hd]; omega
      · rw [eh_snoc, h2, hd]; omega
      · have h5 := h4 (by omega)
        revert h3 h5
        cases hexDigits (n / 16) with
        | nil => simp
        | cons a l => simp
theorem hex_unique (s : List UInt8) (hD : isH s = true) (h0 : s ≠ []) (hz : ¬ (1 < s.length ∧ s.getD 0 0 = 48)) : s = hexDigits (eh 0 s) := by
  obtain ⟨n, hn⟩ : ∃ n, n = s.length := ⟨_, rfl⟩
  induction n generalizing s with
  | zero => exact absurd (List.length_eq_zero_iff.1 hn.symm) h0
  | succ n ih =>
    obtain ⟨t, c, rfl⟩ : ∃ t c, s = t ++ [c] := ⟨s.dropLast, s.getLast h0, (List.dropLast_concat_getLast h0).symm⟩
    have hD2 : isH t = true ∧ dv c < 16 := by
      unfold isH at hD ⊢; rw [List.all_append, Bool.and_eq_true] at hD
      exact ⟨hD.1, by simpa using hD.2⟩
    rw [eh_snoc]
    have hc := hx_dv c hD2.2
    by_cases ht : t = []
    · subst ht
      rw [eh_nil, List.nil_append, Nat.mul_zero, Nat.zero_add, hex_one hD2.2, hc]
    · have htl : 0 < t.length := List.length_pos_iff.2 ht
      have hg : (t ++ [c]).getD 0 0 = t.getD 0 0 := by
        cases t with
        | nil => exact absurd rfl ht
        | cons a l => rfl
      have hz2 : t.getD 0 0 ≠ 48 := fun e => hz ⟨by simp; omega, by rw [hg]; exact e⟩
      have hi := ih t hD2.1 ht (fun h => hz2 h.2) (by simp at hn; omega)
      have hm : eh 0 t ≠ 0 := by
        intro e
        rw [e, hex_one (by decide)] at hi
        rw [hi] at hz2
        exact hz2 rfl
      rw [hexDigits, dif_neg (by omega), show (16 * eh 0 t + dv c) / 16 = eh 0 t by omega, show (16 * eh 0 t + dv c) % 16 = dv c by omega, ← hi, hc]
theorem rd16_iff (M : Nat) (h9 : 15 ≤ M) (s : List UInt8) (n : Nat) : rdB 16 M s = some n ↔ (s = hexDigits n ∧ n ≤ M) := by
  constructor
  · intro h
    unfold rdB at h
    split at h
    · cases h
    · rename_i h0
      rw [rdh_eq _ h9 _ _ (Nat.zero_le _)] at h
      split at h
      · rename_i h1
        cases h
        exact ⟨hex_unique s h1.1 (fun e => h0 (.inl e)) (fun e => h0 (.inr e)), h1.2⟩
      · cases h
  · rintro ⟨rfl, h⟩
    obtain ⟨h1, h2, h3, h4⟩ := hex_facts n
    unfold rdB
    rw [if_neg, rdh_eq _ h9 _ _ (Nat.zero_le _), if_pos ⟨h1, by rw [h2]; exact h⟩, h2]
    rintro (e | ⟨e1, e2⟩)
    · exact h3 e
    · by_cases h0 : 0 < n
      · exact h4 h0 e2
      · obtain rfl : n = 0 := by omega
        rw [hex_one (by decide)] at e1; simp at e1
theorem hex_len : ∀ k n, n < 16 ^ (k + 1) → (hexDigits n).length ≤ k + 1 := by
  intro k
  induction k with
  | zero => intro n h; rw [hex_one (by simpa using h)]; simp
  | succ k ih =>
    intro n h
    by_cases h10 : n < 16
    · rw [hex_one h10]; simp
    · rw [hexDigits, dif_neg h10, List.length_append]
      have := ih (n / 16) (by rw [Nat.div_lt_iff_lt_mul (by decide)]; rw [Nat.pow_succ] at h; exact h)
      simp; omega
/-- a byte's value, as ParseUint reads it in sixteens: great letters too -/
def du (c : UInt8) : Nat := if 48 ≤ c.toNat ∧ c.toNat ≤ 57 then c.toNat - 48 else if 97 ≤ (c.toNat ||| 32) ∧ (c.toNat ||| 32) ≤ 122 then (c.toNat ||| 32) - 87 else 99
def px (M : Nat) : Nat → List UInt8 → Option Nat
  | v, [] => some v
  | v, c :: r => if 16 ≤ du c ∨ 1152921504606846976 ≤ v ∨ M < 16 * v + du c then none else px M (16 * v + du c) r
def puH (M : Nat) (s : List UInt8) : Option Nat := if s = [] then none else px M 0 s
theorem du_dv (c : UInt8) (h : dv c < 16) : du c = dv c := by
  unfold dv at h
  unfold du dv
  by_cases q : 48 ≤ c.toNat ∧ c.toNat ≤ 57
  · rw [if_pos q, if_pos q]
  · rw [if_neg q] at h ⊢
    rw [if_neg q]
    by_cases r : 97 ≤ c.toNat ∧ c.toNat ≤ 102
    · have : c.toNat ||| 32 = c.toNat := by
        have : ∀ k : Fin 256, 97 ≤ k.val → k.val ≤ 102 → k.val ||| 32 = k.val := by decide +kernel
        exact this ⟨c.toNat, c.toNat_lt⟩ r.1 r.2
      rw [this, if_pos (by omega), if_pos r]
    · rw [if_neg r] at h; omega
theorem px_of (M : Nat) (hM : M < 18446744073709551616) : ∀ (l : List UInt8) (v : Nat), isH l = true → eh v l ≤ M → px M v l = some (eh v l) := by
  intro l
  induction l with
  | nil => intro v _ _; rw [eh_nil]; rfl
  | cons c r ih =>
    intro v hD hv
    have hd : dv c < 16 := by unfold isH at hD; simp at hD; exact hD.1
    have hr : isH r = true := by unfold isH at hD ⊢; rw [List.all_cons, Bool.and_eq_true] at hD; exact hD.2
    have h2 := eh_ge r (16 * v + dv c)
    rw [eh_cons] at hv
    rw [eh_cons]
    simp only [px]
    rw [du_dv c hd, if_neg (by omega)]
    exact ih _ hr hv
theorem px_le (M : Nat) : ∀ (l : List UInt8) (v u : Nat), v ≤ M → px M v l = some u → u ≤ M := by
  intro l
  induction l with
  | nil => intro v u h e; simp only [px] at e; injection e with e; omega
  | cons c r ih =>
    intro v u h e
    simp only [px] at e
    split at e
    · cases e
    · exact ih _ _ (by omega) e
/-- what ParseUint tells in sixteens, and whether it is told so again -/
theorem pu16 (M : Nat) (hM : M < 18446744073709551616) (h15 : 15 ≤ M) (s : List UInt8) : (∀ u, puH M s = some u → (decide (hexDigits u = s) = (rdB 16 M s).isSome) ∧ ∀ n, rdB 16 M s = some n → u = n) ∧ (puH M s = none → rdB 16 M s = none) := by
  have key : ∀ n, rdB 16 M s = some n → puH M s = some n := fun n h => by
    obtain ⟨rfl, hn⟩ := (rd16_iff _ h15 s n).1 h
    obtain ⟨h1, h2, h3, _⟩ := hex_facts n
    unfold puH
    rw [if_neg h3]
    have := px_of M hM _ 0 h1 (by rw [h2]; exact hn)
    rw [h2] at this; exact this
  refine ⟨fun u h => ⟨?_, fun n hn => ?_⟩, fun h => ?_⟩
  · have hu : u ≤ M := by
      unfold puH at h
      split at h
      · cases h
      · exact px_le _ _ _ _ (Nat.zero_le _) h
    rw [Bool.eq_iff_iff, decide_eq_true_iff, Option.isSome_iff_exists]
    constructor
    · intro e; exact ⟨u, (rd16_iff _ h15 s u).2 ⟨e.symm, hu⟩⟩
    · rintro ⟨n, hn⟩
      have := key n hn
      rw [h] at this; injection this with this
      rw [this]; exact ((rd16_iff _ h15 s n).1 hn).1.symm
  · have := key n hn
    rw [h] at this; injection this
  · cases hn : rdB 16 M s with
    | none => rfl
    | some n => have := key n hn; rw [h] at this; cases this
end Go.Proofs.YtggfaalodojjkaaGreatDoor
namespace Go.Proofs
open Go.Shelf
def Tryz.lays156_ren : Go.Shelf.Ren := ⟨fun | 156 => 40 | 165 => 65 | 166 => 66 | 169 => 67 | 240 => 94 | 241 => 95 | 276 => 123 | 277 => 124 | n => n, fun | 31 => 73 | 9 => 9 | 3 => 3 | 4 => 4 | 0 => 0 | 20 => 20 | 72 => 120 | 76 => 123 | 70 => 118 | 37 => 27 | 75 => 122 | 127 => 162 | 164 => 184 | 5 => 5 | 80 => 35 | n => n, fun | n => n⟩
theorem Tryz.lays156 : Go.Proofs.Lays.n156 Tryz.prog Tryz.lays156_ren := {
  mixed := by kernel_rfl
  f156 := Tryz.func40.trans (congrArg some (by kernel_rfl))
  f165 := Tryz.func65.trans (congrArg some (by kernel_rfl))
  f166 := Tryz.func66.trans (congrArg some (by kernel_rfl))
  f169 := Tryz.func67.trans (congrArg some (by kernel_rfl))
  f240 := Tryz.func94.trans (congrArg some (by kernel_rfl))
  f241 := Tryz.func95.trans (congrArg some (by kernel_rfl))
  f276 := Tryz.func123.trans (congrArg some (by kernel_rfl))
  f277 := Tryz.func124.trans (congrArg some (by kernel_rfl))
  t0 := Tryz.underlying0
  a0 := Tryz.isAgg0
  z0 := Tryz.sizeOf0
  v0 := Tryz.zeroValue0
  t3 := Tryz.underlying3
  a3 := Tryz.isAgg3
  z3 := Tryz.sizeOf3
  v3 := Tryz.zeroValue3
  t4 := Tryz.underlying4
  a4 := Tryz.isAgg4
  z4 := Tryz.sizeOf4
  v4 := Tryz.zeroValue4
  t9 := Tryz.underlying9
  a9 := Tryz.isAgg9
  z9 := Tryz.sizeOf9
  v9 := Tryz.zeroValue9
  t20 := Tryz.underlying20
  a20 := Tryz.isAgg20
  z20 := Tryz.sizeOf20
  v20 := Tryz.zeroValue20
  t31 := Tryz.underlying73
  a31 := Tryz.isAgg73
  z31 := Tryz.sizeOf73
  v31 := Tryz.zeroValue73
  t37 := Tryz.underlying27
  a37 := Tryz.isAgg27
  z37 := Tryz.sizeOf27
  v37 := Tryz.zeroValue27
  t70 := Tryz.underlying118
  a70 := Tryz.isAgg118
  z70 := Tryz.sizeOf118
  v70 := Tryz.zeroValue118
  t72 := Tryz.underlying120
  a72 := Tryz.isAgg120
  z72 := Tryz.sizeOf120
  v72 := Tryz.zeroValue120
  t75 := Tryz.underlying122
  a75 := Tryz.isAgg122
  z75 := Tryz.sizeOf122
  v75 := Tryz.zeroValue122
  t76 := Tryz.underlying123
  a76 := Tryz.isAgg123
  z76 := Tryz.sizeOf123
  v76 := Tryz.zeroValue123
  t127 := Tryz.underlying162
  a127 := Tryz.isAgg162
  z127 := Tryz.sizeOf162
  v127 := Tryz.zeroValue162
  t164 := Tryz.underlying184
  a164 := Tryz.isAgg184
  z164 := Tryz.sizeOf184
  v164 := Tryz.zeroValue184 }
theorem Tryz.Builder_Extra_156 : Builder.Extra Tryz.prog Tryz.lays156_ren := {
  sizeBuilder := by kernel_rfl
  liesBuilder := by kernel_rfl
  t5 := Tryz.underlying5
  a5 := Tryz.isAgg5
  z5 := Tryz.sizeOf5
  v5 := Tryz.zeroValue5
  infoByte := by kernel_rfl
  cellsByte := by kernel_rfl
  sizeByte := by kernel_rfl
  neB5 := by decide }
open Go.RowKit in
/-- No element: the empty string; the world is as it was. (Whatever the slice's address and capacity: a nil slice too.) (LAID: no walk: one application.) -/
theorem Tryz.strings_Join_none (a : Option Addr) (c : Nat) (sep : ByteArray) (w : World) :
    Calls Tryz.prog 40 #[.slice a 0 c, .string sep] w fun e w' => e = .returned (.string ⟨#[]⟩) ∧ w' = w := Any.strings_Join_none Tryz.lays156 Tryz.Builder_Extra_156 a c sep w
open Go.RowKit in
/-- strings.Join: "Join concatenates the elements of its first argument to create a single string. The separator string sep is placed between elements in the resulting string.": HOWEVER MANY ELEMENTS. Below the heap's end the world is as it was. (LAID: no walk: one application.) -/
theorem Tryz.strings_Join (bk o c : Nat) (xs : List ByteArray) (sep : ByteArray) (w : World) (hcells : ∀ (j : Nat) x, xs[j]? = some x → w.cell? ⟨bk, o + j, none⟩ = some (.string x)) (hbk : bk < w.heap.size) (hN : xs.length ≤ 140737488355328) (hcap : xs.length ≤ c) (hlen : (Lib.join (xs.map (·.data.toList)) sep.data.toList).length ≤ 140737488355328) :
    Calls Tryz.prog 40 #[.slice (some ⟨bk, o, none⟩) xs.length c, .string sep] w fun e w' => e = .returned (.string ⟨(Lib.join (xs.map (·.data.toList)) sep.data.toList).toArray⟩) ∧ Below w.heap.size w w' := Any.strings_Join Tryz.lays156 Tryz.Builder_Extra_156 bk o c xs sep w hcells hbk hN hcap hlen
def Tryz.lays283_ren : Go.Shelf.Ren := ⟨fun | 283 => 140 | n => n, fun | 3 => 3 | 9 => 9 | 4 => 4 | n => n, fun | n => n⟩
theorem Tryz.lays283 : Go.Proofs.Lays.n283 Tryz.prog Tryz.lays283_ren := {
  mixed := by kernel_rfl
  f283 := Tryz.func140.trans (congrArg some (by kernel_rfl))
  t3 := Tryz.underlying3
  a3 := Tryz.isAgg3
  z3 := Tryz.sizeOf3
  v3 := Tryz.zeroValue3
  t4 := Tryz.underlying4
  a4 := Tryz.isAgg4
  z4 := Tryz.sizeOf4
  v4 := Tryz.zeroValue4
  t9 := Tryz.underlying9
  a9 := Tryz.isAgg9
  z9 := Tryz.sizeOf9
  v9 := Tryz.zeroValue9 }
open Go.Lib in
/-- internal/strconv.small: "small returns the string for an i with 0 <= i < nSmalls.": i's decimal numeral. The world is as it was. (LAID: no walk: one application.) -/
theorem Tryz.internal_strconv_small (i : Nat) (h : i < 100) (w : World) :
    Calls Tryz.prog 140 #[.int .i64 i] w fun e w' => e = .returned (.string ⟨(Lib.decDigits i).toArray⟩) ∧ w' = w := Any.internal_strconv_small Tryz.lays283 i h w
def Tryz.laysM284_ren : Go.Shelf.Ren := ⟨fun | 284 => 141 | 129 => 161 | 317 => 160 | 318 => 162 | n => n, fun | 53 => 22 | 3 => 3 | 212 => 235 | 0 => 0 | 4 => 4 | 46 => 158 | 5 => 5 | 9 => 9 | n => n, fun | 17 => 4 | n => n⟩
theorem Tryz.laysM284 : Go.Proofs.LaysM.n284 Tryz.prog Tryz.laysM284_ren := {
  mixed := by kernel_rfl
  f129 := Tryz.func161.trans (congrArg some (by kernel_rfl))
  f284 := Tryz.func141.trans (congrArg some (by kernel_rfl))
  f317 := Tryz.func160.trans (congrArg some (by kernel_rfl))
  f318 := Tryz.func162.trans (congrArg some (by kernel_rfl))
  t0 := Tryz.underlying0
  a0 := Tryz.isAgg0
  z0 := Tryz.sizeOf0
  v0 := Tryz.zeroValue0
  t3 := Tryz.underlying3
  a3 := Tryz.isAgg3
  z3 := Tryz.sizeOf3
  v3 := Tryz.zeroValue3
  t4 := Tryz.underlying4
  a4 := Tryz.isAgg4
  z4 := Tryz.sizeOf4
  v4 := Tryz.zeroValue4
  t5 := Tryz.underlying5
  a5 := Tryz.isAgg5
  z5 := Tryz.sizeOf5
  v5 := Tryz.zeroValue5
  t9 := Tryz.underlying9
  a9 := Tryz.isAgg9
  z9 := Tryz.sizeOf9
  v9 := Tryz.zeroValue9
  t46 := Tryz.underlying158
  a46 := Tryz.isAgg158
  z46 := Tryz.sizeOf158
  v46 := Tryz.zeroValue158
  t53 := Tryz.underlying22
  a53 := Tryz.isAgg22
  z53 := Tryz.sizeOf22
  v53 := Tryz.zeroValue22
  t212 := Tryz.underlying235
  a212 := Tryz.isAgg235
  z212 := Tryz.sizeOf235
  v212 := Tryz.zeroValue235
  g17 := by kernel_rfl
  i0 := by kernel_rfl
  i3 := by kernel_rfl
  i4 := by kernel_rfl
  i5 := by kernel_rfl
  i9 := by kernel_rfl
  i46 := by kernel_rfl
  i53 := by kernel_rfl
  i212 := by kernel_rfl
  m17 := by kernel_rfl }
open Go.Lib in
/-- internal/strconv.numDigits, at a d that is not 0: THE NUMBER OF d's DECIMAL DIGITS. The world is as it was. (LAID: no walk: one application.) -/
theorem Tryz.internal_strconv_numDigits (u : Nat) (h1 : 1 ≤ u) (h2 : u < 18446744073709551616) (w : World) (htab : Lib.TabIs Tryz.prog w "internal/strconv.uint64pow10" .u64 Lib.pow10Tab) :
    Calls Tryz.prog 141 #[.int .u64 u] w fun e w' => e = .returned (.int .i64 (Lib.nDigits u)) ∧ w' = w := Any.internal_strconv_numDigits Tryz.laysM284 u h1 h2 w htab
def Tryz.lays285_ren : Go.Shelf.Ren := ⟨fun | 285 => 142 | n => n, fun | 37 => 27 | 53 => 22 | 3 => 3 | 4 => 4 | 51 => 203 | 9 => 9 | 5 => 5 | 0 => 0 | n => n, fun | n => n⟩
theorem Tryz.lays285 : Go.Proofs.Lays.n285 Tryz.prog Tryz.lays285_ren := {
  mixed := by kernel_rfl
  f285 := Tryz.func142.trans (congrArg some (by kernel_rfl))
  t0 := Tryz.underlying0
  a0 := Tryz.isAgg0
  z0 := Tryz.sizeOf0
  v0 := Tryz.zeroValue0
  t3 := Tryz.underlying3
  a3 := Tryz.isAgg3
  z3 := Tryz.sizeOf3
  v3 := Tryz.zeroValue3
  t4 := Tryz.underlying4
  a4 := Tryz.isAgg4
  z4 := Tryz.sizeOf4
  v4 := Tryz.zeroValue4
  t5 := Tryz.underlying5
  a5 := Tryz.isAgg5
  z5 := Tryz.sizeOf5
  v5 := Tryz.zeroValue5
  t9 := Tryz.underlying9
  a9 := Tryz.isAgg9
  z9 := Tryz.sizeOf9
  v9 := Tryz.zeroValue9
  t37 := Tryz.underlying27
  a37 := Tryz.isAgg27
  z37 := Tryz.sizeOf27
  v37 := Tryz.zeroValue27
  t51 := Tryz.underlying203
  a51 := Tryz.isAgg203
  z51 := Tryz.sizeOf203
  v51 := Tryz.zeroValue203
  t53 := Tryz.underlying22
  a53 := Tryz.isAgg22
  z53 := Tryz.sizeOf22
  v53 := Tryz.zeroValue22 }
open Go.RowKit Go.Sort Go.Lib in
/-- internal/strconv.formatBase10: "formatBase10 formats the decimal representation of u into a. The caller is responsible for ensuring that a is big enough to hold u. If a is too big, leading zeros will be filled in as needed.": THE ROW HOLDS u's DIGITS ('FmtInv .. 0 ..': every place t holds 'dg u (len - 1 - t)'); all else is as it was but for the count of draws. (LAID: no walk: one application.) -/
theorem Tryz.internal_strconv_formatBase10 (blk off cap : Nat) (u : Nat) (d : Array UInt8) (w : World) (hH : Holds (fun (b : UInt8) => Value.int .u8 (b.toNat : Int)) w blk off d) (hu : u < 10 ^ d.size) (hu64 : u < 18446744073709551616) (hsz : d.size < 4611686018427387904) :
    Calls Tryz.prog 142 #[.slice (some ⟨blk, off, none⟩) d.size cap, .int .u64 u] w fun e w' =>
      e = .returned (.tuple #[]) ∧ ∃ (n v' : Nat) (dk : Array UInt8), w' = (putRow (fun (b : UInt8) => Value.int .u8 (b.toNat : Int)) w blk off dk).drewN n ∧ FmtInv d.size u 0 v' dk := Any.internal_strconv_formatBase10 Tryz.lays285 blk off cap u d w hH hu hu64 hsz
def Tryz.laysM173_ren : Go.Shelf.Ren := ⟨fun | 173 => 92 | 246 => 122 | 283 => 140 | 284 => 141 | 285 => 142 | 286 => 143 | 129 => 161 | 317 => 160 | 318 => 162 | 319 => 163 | 320 => 164 | 337 => 174 | 338 => 175 | n => n, fun | 2 => 2 | 3 => 3 | 9 => 9 | 4 => 4 | 171 => 211 | 0 => 0 | 53 => 22 | 37 => 27 | 5 => 5 | 173 => 213 | 212 => 235 | 51 => 203 | 20 => 20 | 213 => 236 | 46 => 158 | 232 => 259 | 233 => 260 | n => n, fun | 17 => 4 | 18 => 9 | 19 => 10 | n => n⟩
theorem Tryz.laysM173 : Go.Proofs.LaysM.n173 Tryz.prog Tryz.laysM173_ren := {
  mixed := by kernel_rfl
  f129 := Tryz.func161.trans (congrArg some (by kernel_rfl))
  f173 := Tryz.func92.trans (congrArg some (by kernel_rfl))
  f246 := Tryz.func122.trans (congrArg some (by kernel_rfl))
  f283 := Tryz.func140.trans (congrArg some (by kernel_rfl))
  f284 := Tryz.func141.trans (congrArg some (by kernel_rfl))
  f285 := Tryz.func142.trans (congrArg some (by kernel_rfl))
  f286 := Tryz.func143.trans (congrArg some (by kernel_rfl))
  f317 := Tryz.func160.trans (congrArg some (by kernel_rfl))
  f318 := Tryz.func162.trans (congrArg some (by kernel_rfl))
  f319 := Tryz.func163.trans (congrArg some (by kernel_rfl))
  f320 := Tryz.func164.trans (congrArg some (by kernel_rfl))
  f337 := Tryz.func174.trans (congrArg some (by kernel_rfl))
  f338 := Tryz.func175.trans (congrArg some (by kernel_rfl))
  t0 := Tryz.underlying0
  a0 := Tryz.isAgg0
  z0 := Tryz.sizeOf0
  v0 := Tryz.zeroValue0
  t2 := Tryz.underlying2
  a2 := Tryz.isAgg2
  z2 := Tryz.sizeOf2
  v2 := Tryz.zeroValue2
  t3 := Tryz.underlying3
  a3 := Tryz.isAgg3
  z3 := Tryz.sizeOf3
  v3 := Tryz.zeroValue3
  t4 := Tryz.underlying4
  a4 := Tryz.isAgg4
  z4 := Tryz.sizeOf4
  v4 := Tryz.zeroValue4
  t5 := Tryz.underlying5
  a5 := Tryz.isAgg5
  z5 := Tryz.sizeOf5
  v5 := Tryz.zeroValue5
  t9 := Tryz.underlying9
  a9 := Tryz.isAgg9
  z9 := Tryz.sizeOf9
  v9 := Tryz.zeroValue9
  t20 := Tryz.underlying20
  a20 := Tryz.isAgg20
  z20 := Tryz.sizeOf20
  v20 := Tryz.zeroValue20
  t37 := Tryz.underlying27
  a37 := Tryz.isAgg27
  z37 := Tryz.sizeOf27
  v37 := Tryz.zeroValue27
  t46 := Tryz.underlying158
  a46 := Tryz.isAgg158
  z46 := Tryz.sizeOf158
  v46 := Tryz.zeroValue158
  t51 := Tryz.underlying203
  a51 := Tryz.isAgg203
  z51 := Tryz.sizeOf203
  v51 := Tryz.zeroValue203
  t53 := Tryz.underlying22
  a53 := Tryz.isAgg22
  z53 := Tryz.sizeOf22
  v53 := Tryz.zeroValue22
  t171 := Tryz.underlying211
  a171 := Tryz.isAgg211
  z171 := Tryz.sizeOf211
  v171 := Tryz.zeroValue211
  t173 := Tryz.underlying213
  a173 := Tryz.isAgg213
  z173 := Tryz.sizeOf213
  v173 := Tryz.zeroValue213
  t212 := Tryz.underlying235
  a212 := Tryz.isAgg235
  z212 := Tryz.sizeOf235
  v212 := Tryz.zeroValue235
  t213 := Tryz.underlying236
  a213 := Tryz.isAgg236
  z213 := Tryz.sizeOf236
  t232 := Tryz.underlying259
  a232 := Tryz.isAgg259
  z232 := Tryz.sizeOf259
  v232 := Tryz.zeroValue259
  t233 := Tryz.underlying260
  a233 := Tryz.isAgg260
  z233 := Tryz.sizeOf260
  v233 := Tryz.zeroValue260
  g17 := by kernel_rfl
  g18 := by kernel_rfl
  g19 := by kernel_rfl
  i0 := by kernel_rfl
  i2 := by kernel_rfl
  i3 := by kernel_rfl
  i4 := by kernel_rfl
  i5 := by kernel_rfl
  i9 := by kernel_rfl
  i20 := by kernel_rfl
  i37 := by kernel_rfl
  i46 := by kernel_rfl
  i51 := by kernel_rfl
  i53 := by kernel_rfl
  i171 := by kernel_rfl
  i173 := by kernel_rfl
  i212 := by kernel_rfl
  i232 := by kernel_rfl
  i233 := by kernel_rfl
  m17 := by kernel_rfl
  m18 := by kernel_rfl
  m19 := by kernel_rfl }
open Go.RowKit Go.Sort Go.Lib in
/-- strconv.FormatInt: "FormatInt returns the string representation of i in the given base": AT BASE 10: i's decimal numeral, for every int64. (LAID: no walk: one application.) -/
theorem Tryz.strconv_FormatInt_10 (n : Int) (h0 : -9223372036854775808 ≤ n) (h1 : n ≤ 9223372036854775807) (w : World) (htab : Lib.TabIs Tryz.prog w "internal/strconv.uint64pow10" .u64 Lib.pow10Tab) :
    Calls Tryz.prog 92 #[.int .i64 n, .int .i64 10] w fun e w' => e = .returned (.string ⟨(Lib.itoa n).toArray⟩) ∧ ∃ k os, w' = grow (w.drewN k) os := Any.strconv_FormatInt_10 Tryz.laysM173 n h0 h1 w htab
def Tryz.laysC245_ren : Go.Shelf.Ren := ⟨fun | 245 => 158 | 279 => 170 | 280 => 171 | 281 => 172 | 282 => 173 | 316 => 177 | 171 => 179 | 205 => 178 | 243 => 180 | 246 => 122 | 283 => 140 | 284 => 141 | 285 => 142 | 286 => 143 | 129 => 161 | 317 => 160 | 318 => 162 | 319 => 163 | 320 => 164 | 337 => 174 | 338 => 175 | n => n, fun | 9 => 9 | 3 => 3 | 75 => 122 | 167 => 247 | 4 => 4 | 168 => 250 | 210 => 257 | 37 => 27 | 0 => 0 | 127 => 162 | 145 => 263 | 143 => 261 | 2 => 2 | 171 => 211 | 53 => 22 | 5 => 5 | 173 => 213 | 212 => 235 | 51 => 203 | 20 => 20 | 213 => 236 | 46 => 158 | 232 => 259 | 233 => 260 | 80 => 35 | n => n, fun | 15 => 7 | 16 => 8 | 17 => 4 | 18 => 9 | 19 => 10 | n => n⟩
theorem Tryz.laysC245 : Go.Proofs.LaysC.n245 Tryz.prog Tryz.laysC245_ren := {
  mixed := by kernel_rfl
  f129 := Tryz.func161.trans (congrArg some (by kernel_rfl))
  f171 := Tryz.func179.trans (congrArg some (by kernel_rfl))
  f205 := Tryz.func178.trans (congrArg some (by kernel_rfl))
  f243 := Tryz.func180.trans (congrArg some (by kernel_rfl))
  f245 := Tryz.func158.trans (congrArg some (by kernel_rfl))
  f246 := Tryz.func122.trans (congrArg some (by kernel_rfl))
  f279 := Tryz.func170.trans (congrArg some (by kernel_rfl))
  f280 := Tryz.func171.trans (congrArg some (by kernel_rfl))
  f281 := Tryz.func172.trans (congrArg some (by kernel_rfl))
  f282 := Tryz.func173.trans (congrArg some (by kernel_rfl))
  f283 := Tryz.func140.trans (congrArg some (by kernel_rfl))
  f284 := Tryz.func141.trans (congrArg some (by kernel_rfl))
  f285 := Tryz.func142.trans (congrArg some (by kernel_rfl))
  f286 := Tryz.func143.trans (congrArg some (by kernel_rfl))
  f316 := Tryz.func177.trans (congrArg some (by kernel_rfl))
  f317 := Tryz.func160.trans (congrArg some (by kernel_rfl))
  f318 := Tryz.func162.trans (congrArg some (by kernel_rfl))
  f319 := Tryz.func163.trans (congrArg some (by kernel_rfl))
  f320 := Tryz.func164.trans (congrArg some (by kernel_rfl))
  f337 := Tryz.func174.trans (congrArg some (by kernel_rfl))
  f338 := Tryz.func175.trans (congrArg some (by kernel_rfl))
  t0 := Tryz.underlying0
  a0 := Tryz.isAgg0
  z0 := Tryz.sizeOf0
  v0 := Tryz.zeroValue0
  t2 := Tryz.underlying2
  a2 := Tryz.isAgg2
  z2 := Tryz.sizeOf2
  v2 := Tryz.zeroValue2
  t3 := Tryz.underlying3
  a3 := Tryz.isAgg3
  z3 := Tryz.sizeOf3
  v3 := Tryz.zeroValue3
  t4 := Tryz.underlying4
  a4 := Tryz.isAgg4
  z4 := Tryz.sizeOf4
  v4 := Tryz.zeroValue4
  t5 := Tryz.underlying5
  a5 := Tryz.isAgg5
  z5 := Tryz.sizeOf5
  v5 := Tryz.zeroValue5
  t9 := Tryz.underlying9
  a9 := Tryz.isAgg9
  z9 := Tryz.sizeOf9
  v9 := Tryz.zeroValue9
  t20 := Tryz.underlying20
  a20 := Tryz.isAgg20
  z20 := Tryz.sizeOf20
  v20 := Tryz.zeroValue20
  t37 := Tryz.underlying27
  a37 := Tryz.isAgg27
  z37 := Tryz.sizeOf27
  v37 := Tryz.zeroValue27
  t46 := Tryz.underlying158
  a46 := Tryz.isAgg158
  z46 := Tryz.sizeOf158
  v46 := Tryz.zeroValue158
  t51 := Tryz.underlying203
  a51 := Tryz.isAgg203
  z51 := Tryz.sizeOf203
  v51 := Tryz.zeroValue203
  t53 := Tryz.underlying22
  a53 := Tryz.isAgg22
  z53 := Tryz.sizeOf22
  v53 := Tryz.zeroValue22
  t75 := Tryz.underlying122
  a75 := Tryz.isAgg122
  z75 := Tryz.sizeOf122
  v75 := Tryz.zeroValue122
  t127 := Tryz.underlying162
  a127 := Tryz.isAgg162
  z127 := Tryz.sizeOf162
  v127 := Tryz.zeroValue162
  t143 := Tryz.underlying261
  a143 := Tryz.isAgg261
  z143 := Tryz.sizeOf261
  v143 := Tryz.zeroValue261
  t145 := Tryz.underlying263
  a145 := Tryz.isAgg263
  z145 := Tryz.sizeOf263
  v145 := Tryz.zeroValue263
  t167 := Tryz.underlying247
  a167 := Tryz.isAgg247
  z167 := Tryz.sizeOf247
  v167 := Tryz.zeroValue247
  t168 := Tryz.underlying250
  a168 := Tryz.isAgg250
  z168 := Tryz.sizeOf250
  v168 := Tryz.zeroValue250
  t171 := Tryz.underlying211
  a171 := Tryz.isAgg211
  z171 := Tryz.sizeOf211
  v171 := Tryz.zeroValue211
  t173 := Tryz.underlying213
  a173 := Tryz.isAgg213
  z173 := Tryz.sizeOf213
  v173 := Tryz.zeroValue213
  t210 := Tryz.underlying257
  a210 := Tryz.isAgg257
  z210 := Tryz.sizeOf257
  v210 := Tryz.zeroValue257
  t212 := Tryz.underlying235
  a212 := Tryz.isAgg235
  z212 := Tryz.sizeOf235
  v212 := Tryz.zeroValue235
  t213 := Tryz.underlying236
  a213 := Tryz.isAgg236
  z213 := Tryz.sizeOf236
  t232 := Tryz.underlying259
  a232 := Tryz.isAgg259
  z232 := Tryz.sizeOf259
  v232 := Tryz.zeroValue259
  t233 := Tryz.underlying260
  a233 := Tryz.isAgg260
  z233 := Tryz.sizeOf260
  v233 := Tryz.zeroValue260
  g15 := by kernel_rfl
  g16 := by kernel_rfl
  g17 := by kernel_rfl
  g18 := by kernel_rfl
  g19 := by kernel_rfl
  t80 := Tryz.underlying35
  a80 := Tryz.isAgg35
  z80 := Tryz.sizeOf35
  v80 := Tryz.zeroValue35
  i0 := by kernel_rfl
  i2 := by kernel_rfl
  i3 := by kernel_rfl
  i4 := by kernel_rfl
  i5 := by kernel_rfl
  i9 := by kernel_rfl
  i20 := by kernel_rfl
  i37 := by kernel_rfl
  i46 := by kernel_rfl
  i51 := by kernel_rfl
  i53 := by kernel_rfl
  i75 := by kernel_rfl
  i80 := by kernel_rfl
  i127 := by kernel_rfl
  i143 := by kernel_rfl
  i145 := by kernel_rfl
  i167 := by kernel_rfl
  i168 := by kernel_rfl
  i171 := by kernel_rfl
  i173 := by kernel_rfl
  i210 := by kernel_rfl
  i212 := by kernel_rfl
  i232 := by kernel_rfl
  i233 := by kernel_rfl
  m15 := by kernel_rfl
  m16 := by kernel_rfl
  m17 := by kernel_rfl
  m18 := by kernel_rfl
  m19 := by kernel_rfl
  c0 := by kernel_rfl
  c2 := by kernel_rfl
  c3 := by kernel_rfl
  c4 := by kernel_rfl
  c5 := by kernel_rfl
  c9 := by kernel_rfl
  c20 := by kernel_rfl
  c37 := by kernel_rfl
  c46 := by kernel_rfl
  c51 := by kernel_rfl
  c53 := by kernel_rfl
  c75 := by kernel_rfl
  c80 := by kernel_rfl
  c127 := by kernel_rfl
  c143 := by kernel_rfl
  c145 := by kernel_rfl
  c167 := by kernel_rfl
  c168 := by kernel_rfl
  c171 := by kernel_rfl
  c173 := by kernel_rfl
  c210 := by kernel_rfl
  c212 := by kernel_rfl
  c213 := by kernel_rfl
  c232 := by kernel_rfl
  c233 := by kernel_rfl }
open Go.RowKit in
/-- strconv.toError, at the inner package's ErrSyntax: 'syntaxError(fn, s)' as an error: A *NumError IN A NEW BLOCK. (LAID: no walk: one application.) -/
theorem Tryz.strconv_toError_syntax (fn s : ByteArray) (base bits : Int) (ev : Value) (w : World) (hlim : s.size ≤ 281474976710656) (hv : w.cell? ⟨7, 0, none⟩ = some ev) (hev : ev = .nilIface ∨ ∃ te pe, ev = .iface te pe) :
    Calls Tryz.prog 158 #[.string fn, .string s, .int .i64 base, .int .i64 bits, .iface 247 (.int .i64 2)] w fun e w' => ∃ N, e = .returned (.iface 250 (.pointer (some ⟨N, 0, none⟩))) ∧ w.heap.size ≤ N ∧ w'.heap[N]? = some (.cells #[.string fn, .string s, ev] 257 (0, 0)) ∧ Below w.heap.size w w' := Any.strconv_toError_syntax Tryz.laysC245 fn s base bits ev w hlim hv hev
def Tryz.lays321_ren : Go.Shelf.Ren := ⟨fun | 321 => 168 | n => n, fun | 5 => 5 | n => n, fun | n => n⟩
theorem Tryz.lays321 : Go.Proofs.Lays.n321 Tryz.prog Tryz.lays321_ren := {
  mixed := by kernel_rfl
  f321 := Tryz.func168.trans (congrArg some (by kernel_rfl))
  t5 := Tryz.underlying5
  a5 := Tryz.isAgg5
  z5 := Tryz.sizeOf5
  v5 := Tryz.zeroValue5 }
open Go.RowKit in
/-- internal/strconv.lower: 'c | ('x' - 'X')': the bit 32 set. The world is as it was. (LAID: no walk: one application.) -/
theorem Tryz.internal_strconv_lower (c : Int) (w : World) :
    Calls Tryz.prog 168 #[.int .u8 c] w fun e w' => e = .returned (.int .u8 (bits .or .u8 c 32)) ∧ w' = w := Any.internal_strconv_lower Tryz.lays321 c w
open Go.RowKit in
/-- strconv.toError, at the inner package's ErrRange: 'rangeError(fn, s)' as an error: A *NumError IN A NEW BLOCK. (LAID: no walk: one application.) -/
theorem Tryz.strconv_toError_range (fn s : ByteArray) (base bits : Int) (ev : Value) (w : World) (hlim : s.size ≤ 281474976710656) (hv : w.cell? ⟨8, 0, none⟩ = some ev) (hev : ev = .nilIface ∨ ∃ te pe, ev = .iface te pe) :
    Calls Tryz.prog 158 #[.string fn, .string s, .int .i64 base, .int .i64 bits, .iface 247 (.int .i64 1)] w fun e w' => ∃ N, e = .returned (.iface 250 (.pointer (some ⟨N, 0, none⟩))) ∧ w.heap.size ≤ N ∧ w'.heap[N]? = some (.cells #[.string fn, .string s, ev] 257 (0, 0)) ∧ Below w.heap.size w w' := Any.strconv_toError_range Tryz.laysC245 fn s base bits ev w hlim hv hev
def Tryz.laysC174_ren : Go.Shelf.Ren := ⟨fun | 174 => 138 | 247 => 159 | 245 => 158 | 287 => 157 | 279 => 170 | 280 => 171 | 281 => 172 | 282 => 173 | 321 => 168 | 322 => 169 | 316 => 177 | 171 => 179 | 205 => 178 | 243 => 180 | 246 => 122 | 283 => 140 | 284 => 141 | 285 => 142 | 286 => 143 | 129 => 161 | 317 => 160 | 318 => 162 | 319 => 163 | 320 => 164 | 337 => 174 | 338 => 175 | n => n, fun | 9 => 9 | 3 => 3 | 2 => 2 | 75 => 122 | 85 => 208 | 4 => 4 | 167 => 247 | 5 => 5 | 53 => 22 | 175 => 206 | 46 => 158 | 168 => 250 | 37 => 27 | 0 => 0 | 210 => 257 | 21 => 21 | 127 => 162 | 145 => 263 | 143 => 261 | 171 => 211 | 173 => 213 | 212 => 235 | 51 => 203 | 20 => 20 | 213 => 236 | 232 => 259 | 233 => 260 | 80 => 35 | n => n, fun | 15 => 7 | 16 => 8 | 17 => 4 | 18 => 9 | 19 => 10 | n => n⟩
theorem Tryz.laysC174 : Go.Proofs.LaysC.n174 Tryz.prog Tryz.laysC174_ren := {
  mixed := by kernel_rfl
  f129 := Tryz.func161.trans (congrArg some (by kernel_rfl))
  f171 := Tryz.func179.trans (congrArg some (by kernel_rfl))
  f174 := Tryz.func138.trans (congrArg some (by kernel_rfl))
  f205 := Tryz.func178.trans (congrArg some (by kernel_rfl))
  f243 := Tryz.func180.trans (congrArg some (by kernel_rfl))
  f245 := Tryz.func158.trans (congrArg some (by kernel_rfl))
  f246 := Tryz.func122.trans (congrArg some (by kernel_rfl))
  f247 := Tryz.func159.trans (congrArg some (by kernel_rfl))
  f279 := Tryz.func170.trans (congrArg some (by kernel_rfl))
  f280 := Tryz.func171.trans (congrArg some (by kernel_rfl))
  f281 := Tryz.func172.trans (congrArg some (by kernel_rfl))
  f282 := Tryz.func173.trans (congrArg some (by kernel_rfl))
  f283 := Tryz.func140.trans (congrArg some (by kernel_rfl))
  f284 := Tryz.func141.trans (congrArg some (by kernel_rfl))
  f285 := Tryz.func142.trans (congrArg some (by kernel_rfl))
  f286 := Tryz.func143.trans (congrArg some (by kernel_rfl))
  f287 := Tryz.func157.trans (congrArg some (by kernel_rfl))
  f316 := Tryz.func177.trans (congrArg some (by kernel_rfl))
  f317 := Tryz.func160.trans (congrArg some (by kernel_rfl))
  f318 := Tryz.func162.trans (congrArg some (by kernel_rfl))
  f319 := Tryz.func163.trans (congrArg some (by kernel_rfl))
  f320 := Tryz.func164.trans (congrArg some (by kernel_rfl))
  f321 := Tryz.func168.trans (congrArg some (by kernel_rfl))
  f322 := Tryz.func169.trans (congrArg some (by kernel_rfl))
  f337 := Tryz.func174.trans (congrArg some (by kernel_rfl))
  f338 := Tryz.func175.trans (congrArg some (by kernel_rfl))
  t0 := Tryz.underlying0
  a0 := Tryz.isAgg0
  z0 := Tryz.sizeOf0
  v0 := Tryz.zeroValue0
  t2 := Tryz.underlying2
  a2 := Tryz.isAgg2
  z2 := Tryz.sizeOf2
  v2 := Tryz.zeroValue2
  t3 := Tryz.underlying3
  a3 := Tryz.isAgg3
  z3 := Tryz.sizeOf3
  v3 := Tryz.zeroValue3
  t4 := Tryz.underlying4
  a4 := Tryz.isAgg4
  z4 := Tryz.sizeOf4
  v4 := Tryz.zeroValue4
  t5 := Tryz.underlying5
  a5 := Tryz.isAgg5
  z5 := Tryz.sizeOf5
  v5 := Tryz.zeroValue5
  t9 := Tryz.underlying9
  a9 := Tryz.isAgg9
  z9 := Tryz.sizeOf9
  v9 := Tryz.zeroValue9
  t20 := Tryz.underlying20
  a20 := Tryz.isAgg20
  z20 := Tryz.sizeOf20
  v20 := Tryz.zeroValue20
  t21 := Tryz.underlying21
  a21 := Tryz.isAgg21
  z21 := Tryz.sizeOf21
  v21 := Tryz.zeroValue21
  t37 := Tryz.underlying27
  a37 := Tryz.isAgg27
  z37 := Tryz.sizeOf27
  v37 := Tryz.zeroValue27
  t46 := Tryz.underlying158
  a46 := Tryz.isAgg158
  z46 := Tryz.sizeOf158
  v46 := Tryz.zeroValue158
  t51 := Tryz.underlying203
  a51 := Tryz.isAgg203
  z51 := Tryz.sizeOf203
  v51 := Tryz.zeroValue203
  t53 := Tryz.underlying22
  a53 := Tryz.isAgg22
  z53 := Tryz.sizeOf22
  v53 := Tryz.zeroValue22
  t75 := Tryz.underlying122
  a75 := Tryz.isAgg122
  z75 := Tryz.sizeOf122
  v75 := Tryz.zeroValue122
  t85 := Tryz.underlying208
  a85 := Tryz.isAgg208
  z85 := Tryz.sizeOf208
  v85 := Tryz.zeroValue208
  t127 := Tryz.underlying162
  a127 := Tryz.isAgg162
  z127 := Tryz.sizeOf162
  v127 := Tryz.zeroValue162
  t143 := Tryz.underlying261
  a143 := Tryz.isAgg261
  z143 := Tryz.sizeOf261
  v143 := Tryz.zeroValue261
  t145 := Tryz.underlying263
  a145 := Tryz.isAgg263
  z145 := Tryz.sizeOf263
  v145 := Tryz.zeroValue263
  t167 := Tryz.underlying247
  a167 := Tryz.isAgg247
  z167 := Tryz.sizeOf247
  v167 := Tryz.zeroValue247
  t168 := Tryz.underlying250
  a168 := Tryz.isAgg250
  z168 := Tryz.sizeOf250
  v168 := Tryz.zeroValue250
  t171 := Tryz.underlying211
  a171 := Tryz.isAgg211
  z171 := Tryz.sizeOf211
  v171 := Tryz.zeroValue211
  t173 := Tryz.underlying213
  a173 := Tryz.isAgg213
  z173 := Tryz.sizeOf213
  v173 := Tryz.zeroValue213
  t175 := Tryz.underlying206
  a175 := Tryz.isAgg206
  z175 := Tryz.sizeOf206
  v175 := Tryz.zeroValue206
  t210 := Tryz.underlying257
  a210 := Tryz.isAgg257
  z210 := Tryz.sizeOf257
  v210 := Tryz.zeroValue257
  t212 := Tryz.underlying235
  a212 := Tryz.isAgg235
  z212 := Tryz.sizeOf235
  v212 := Tryz.zeroValue235
  t213 := Tryz.underlying236
  a213 := Tryz.isAgg236
  z213 := Tryz.sizeOf236
  t232 := Tryz.underlying259
  a232 := Tryz.isAgg259
  z232 := Tryz.sizeOf259
  v232 := Tryz.zeroValue259
  t233 := Tryz.underlying260
  a233 := Tryz.isAgg260
  z233 := Tryz.sizeOf260
  v233 := Tryz.zeroValue260
  g15 := by kernel_rfl
  g16 := by kernel_rfl
  g17 := by kernel_rfl
  g18 := by kernel_rfl
  g19 := by kernel_rfl
  t80 := Tryz.underlying35
  a80 := Tryz.isAgg35
  z80 := Tryz.sizeOf35
  v80 := Tryz.zeroValue35
  i0 := by kernel_rfl
  i2 := by kernel_rfl
  i3 := by kernel_rfl
  i4 := by kernel_rfl
  i5 := by kernel_rfl
  i9 := by kernel_rfl
  i20 := by kernel_rfl
  i21 := by kernel_rfl
  i37 := by kernel_rfl
  i46 := by kernel_rfl
  i51 := by kernel_rfl
  i53 := by kernel_rfl
  i75 := by kernel_rfl
  i80 := by kernel_rfl
  i85 := by kernel_rfl
  i127 := by kernel_rfl
  i143 := by kernel_rfl
  i145 := by kernel_rfl
  i167 := by kernel_rfl
  i168 := by kernel_rfl
  i171 := by kernel_rfl
  i173 := by kernel_rfl
  i175 := by kernel_rfl
  i210 := by kernel_rfl
  i212 := by kernel_rfl
  i232 := by kernel_rfl
  i233 := by kernel_rfl
  m15 := by kernel_rfl
  m16 := by kernel_rfl
  m17 := by kernel_rfl
  m18 := by kernel_rfl
  m19 := by kernel_rfl
  c0 := by kernel_rfl
  c2 := by kernel_rfl
  c3 := by kernel_rfl
  c4 := by kernel_rfl
  c5 := by kernel_rfl
  c9 := by kernel_rfl
  c20 := by kernel_rfl
  c21 := by kernel_rfl
  c37 := by kernel_rfl
  c46 := by kernel_rfl
  c51 := by kernel_rfl
  c53 := by kernel_rfl
  c75 := by kernel_rfl
  c80 := by kernel_rfl
  c85 := by kernel_rfl
  c127 := by kernel_rfl
  c143 := by kernel_rfl
  c145 := by kernel_rfl
  c167 := by kernel_rfl
  c168 := by kernel_rfl
  c171 := by kernel_rfl
  c173 := by kernel_rfl
  c175 := by kernel_rfl
  c210 := by kernel_rfl
  c212 := by kernel_rfl
  c213 := by kernel_rfl
  c232 := by kernel_rfl
  c233 := by kernel_rfl }
open Go.RowKit in
/-- strconv.ParseInt(s, 10, 64), AT EVERY STRING THAT SPELLS AN int64 ('Lib.parseIntB 64 s.data.toList = .ok v'): v, AND NO ERROR. (LAID: no walk: one application.) -/
theorem Tryz.strconv_ParseInt_10_at64_ok (s : ByteArray) (hmax : s.size ≤ 9223372036854775806) (v : Int) (h : Lib.parseIntB 64 s.data.toList = .ok v) (w : World) :
    Calls Tryz.prog 138 #[.string s, .int .i64 10, .int .i64 64] w fun e w' => e = .returned (.tuple #[.int .i64 v, .nilIface]) ∧ (w' = w ∨ ∃ t, w' = Lib.bytesWorld w 5 t) := Any.strconv_ParseInt_10_at64_ok Tryz.laysC174 s hmax v h w
open Go.RowKit in
/-- strconv.ParseInt(s, 10, 64), AT EVERY STRING THAT IS NO DECIMAL NUMERAL: 0, AND AN ERROR THAT IS NOT nil: a *NumError in a new block N: {Func: "ParseInt", Num: s's bytes, Err: what the variable ErrSyntax holds}. Of what was there nothing has turned. (LAID: no walk: one application.) -/
theorem Tryz.strconv_ParseInt_10_at64_syntax (s : ByteArray) (hlim : s.size ≤ 281474976710656) (h : Lib.parseIntB 64 s.data.toList = .«syntax») (ev : Value) (w : World) (hv : w.cell? ⟨7, 0, none⟩ = some ev) (hev : ev = .nilIface ∨ ∃ te pe, ev = .iface te pe) :
    Calls Tryz.prog 138 #[.string s, .int .i64 10, .int .i64 64] w fun e w' => ∃ N, e = .returned (.tuple #[.int .i64 (0), .iface 250 (.pointer (some ⟨N, 0, none⟩))]) ∧ w.heap.size ≤ N ∧ w'.heap[N]? = some (.cells #[.string ⟨#[80, 97, 114, 115, 101, 73, 110, 116]⟩, .string s, ev] 257 (0, 0)) ∧ Below w.heap.size w w' := Any.strconv_ParseInt_10_at64_syntax Tryz.laysC174 s hlim h ev w hv hev
open Go.RowKit in
/-- strconv.ParseInt(s, 10, 64), AT EVERY NUMERAL THAT NO int64 HOLDS: THE GREATEST OR THE LEAST int64, BY THE SIGN ('Lib.intSat 64'), AND AN ERROR THAT IS NOT nil: a *NumError in a new block N: {Func: "ParseInt", Num: s's bytes, Err: what the variable ErrRange holds}. Of what was there nothing has turned. (LAID: no walk: one application.) -/
theorem Tryz.strconv_ParseInt_10_at64_range (s : ByteArray) (hlim : s.size ≤ 281474976710656) (h : Lib.parseIntB 64 s.data.toList = .range) (ev : Value) (w : World) (hv : w.cell? ⟨8, 0, none⟩ = some ev) (hev : ev = .nilIface ∨ ∃ te pe, ev = .iface te pe) :
    Calls Tryz.prog 138 #[.string s, .int .i64 10, .int .i64 64] w fun e w' => ∃ N, e = .returned (.tuple #[.int .i64 (Lib.intSat 64 s.data.toList), .iface 250 (.pointer (some ⟨N, 0, none⟩))]) ∧ w.heap.size ≤ N ∧ w'.heap[N]? = some (.cells #[.string ⟨#[80, 97, 114, 115, 101, 73, 110, 116]⟩, .string s, ev] 257 (0, 0)) ∧ Below w.heap.size w w' := Any.strconv_ParseInt_10_at64_range Tryz.laysC174 s hlim h ev w hv hev
open Go.RowKit in
/-- strconv.ParseInt(s, 10, 32), AT EVERY STRING THAT SPELLS AN int32 ('Lib.parseIntB 32 s.data.toList = .ok v'): v, AND NO ERROR. (LAID: no walk: one application.) -/
theorem Tryz.strconv_ParseInt_10_at32_ok (s : ByteArray) (hmax : s.size ≤ 9223372036854775806) (v : Int) (h : Lib.parseIntB 32 s.data.toList = .ok v) (w : World) :
    Calls Tryz.prog 138 #[.string s, .int .i64 10, .int .i64 32] w fun e w' => e = .returned (.tuple #[.int .i64 v, .nilIface]) ∧ (w' = w ∨ ∃ t, w' = Lib.bytesWorld w 5 t) := Any.strconv_ParseInt_10_at32_ok Tryz.laysC174 s hmax v h w
open Go.RowKit in
/-- strconv.ParseInt(s, 10, 32), AT EVERY STRING THAT IS NO DECIMAL NUMERAL: 0, AND AN ERROR THAT IS NOT nil: a *NumError in a new block N: {Func: "ParseInt", Num: s's bytes, Err: what the variable ErrSyntax holds}. Of what was there nothing has turned. (LAID: no walk: one application.) -/
theorem Tryz.strconv_ParseInt_10_at32_syntax (s : ByteArray) (hlim : s.size ≤ 281474976710656) (h : Lib.parseIntB 32 s.data.toList = .«syntax») (ev : Value) (w : World) (hv : w.cell? ⟨7, 0, none⟩ = some ev) (hev : ev = .nilIface ∨ ∃ te pe, ev = .iface te pe) :
    Calls Tryz.prog 138 #[.string s, .int .i64 10, .int .i64 32] w fun e w' => ∃ N, e = .returned (.tuple #[.int .i64 (0), .iface 250 (.pointer (some ⟨N, 0, none⟩))]) ∧ w.heap.size ≤ N ∧ w'.heap[N]? = some (.cells #[.string ⟨#[80, 97, 114, 115, 101, 73, 110, 116]⟩, .string s, ev] 257 (0, 0)) ∧ Below w.heap.size w w' := Any.strconv_ParseInt_10_at32_syntax Tryz.laysC174 s hlim h ev w hv hev
open Go.RowKit in
/-- strconv.ParseInt(s, 10, 32), AT EVERY NUMERAL THAT NO int32 HOLDS: THE GREATEST OR THE LEAST int32, BY THE SIGN ('Lib.intSat 32'), AND AN ERROR THAT IS NOT nil: a *NumError in a new block N: {Func: "ParseInt", Num: s's bytes, Err: what the variable ErrRange holds}. Of what was there nothing has turned. (LAID: no walk: one application.) -/
theorem Tryz.strconv_ParseInt_10_at32_range (s : ByteArray) (hlim : s.size ≤ 281474976710656) (h : Lib.parseIntB 32 s.data.toList = .range) (ev : Value) (w : World) (hv : w.cell? ⟨8, 0, none⟩ = some ev) (hev : ev = .nilIface ∨ ∃ te pe, ev = .iface te pe) :
    Calls Tryz.prog 138 #[.string s, .int .i64 10, .int .i64 32] w fun e w' => ∃ N, e = .returned (.tuple #[.int .i64 (Lib.intSat 32 s.data.toList), .iface 250 (.pointer (some ⟨N, 0, none⟩))]) ∧ w.heap.size ≤ N ∧ w'.heap[N]? = some (.cells #[.string ⟨#[80, 97, 114, 115, 101, 73, 110, 116]⟩, .string s, ev] 257 (0, 0)) ∧ Below w.heap.size w w' := Any.strconv_ParseInt_10_at32_range Tryz.laysC174 s hlim h ev w hv hev
def Tryz.laysPu14_ren : Go.Shelf.Ren := ⟨fun | 14 => 137 | 16 => 157 | 17 => 158 | 19 => 168 | 20 => 169 | 21 => 170 | 22 => 171 | 23 => 172 | 24 => 173 | 25 => 177 | 27 => 179 | 26 => 178 | 28 => 180 | 29 => 122 | 30 => 140 | 31 => 141 | 32 => 142 | 33 => 143 | 35 => 161 | 34 => 160 | 36 => 162 | 37 => 163 | 38 => 164 | 39 => 174 | 40 => 175 | n => n, fun | 9 => 9 | 3 => 3 | 22 => 22 | 24 => 122 | 25 => 206 | 4 => 4 | 34 => 247 | 5 => 5 | 36 => 158 | 37 => 27 | 0 => 0 | 39 => 250 | 21 => 21 | 44 => 257 | 47 => 162 | 50 => 263 | 48 => 261 | 2 => 2 | 52 => 211 | 55 => 213 | 59 => 235 | 60 => 203 | 20 => 20 | 61 => 236 | 65 => 259 | 66 => 260 | 67 => 35 | n => n, fun | 0 => 7 | 1 => 8 | 2 => 4 | 3 => 9 | 4 => 10 | n => n⟩
theorem Tryz.laysPu14 : Go.Proofs.LaysPu.n14 Tryz.prog Tryz.laysPu14_ren := {
  mixed := by kernel_rfl
  f14 := Tryz.func137.trans (congrArg some (by kernel_rfl))
  f16 := Tryz.func157.trans (congrArg some (by kernel_rfl))
  f17 := Tryz.func158.trans (congrArg some (by kernel_rfl))
  f19 := Tryz.func168.trans (congrArg some (by kernel_rfl))
  f20 := Tryz.func169.trans (congrArg some (by kernel_rfl))
  f21 := Tryz.func170.trans (congrArg some (by kernel_rfl))
  f22 := Tryz.func171.trans (congrArg some (by kernel_rfl))
  f23 := Tryz.func172.trans (congrArg some (by kernel_rfl))
  f24 := Tryz.func173.trans (congrArg some (by kernel_rfl))
  f25 := Tryz.func177.trans (congrArg some (by kernel_rfl))
  f26 := Tryz.func178.trans (congrArg some (by kernel_rfl))
  f27 := Tryz.func179.trans (congrArg some (by kernel_rfl))
  f28 := Tryz.func180.trans (congrArg some (by kernel_rfl))
  f29 := Tryz.func122.trans (congrArg some (by kernel_rfl))
  f30 := Tryz.func140.trans (congrArg some (by kernel_rfl))
  f31 := Tryz.func141.trans (congrArg some (by kernel_rfl))
  f32 := Tryz.func142.trans (congrArg some (by kernel_rfl))
  f33 := Tryz.func143.trans (congrArg some (by kernel_rfl))
  f34 := Tryz.func160.trans (congrArg some (by kernel_rfl))
  f35 := Tryz.func161.trans (congrArg some (by kernel_rfl))
  f36 := Tryz.func162.trans (congrArg some (by kernel_rfl))
  f37 := Tryz.func163.trans (congrArg some (by kernel_rfl))
  f38 := Tryz.func164.trans (congrArg some (by kernel_rfl))
  f39 := Tryz.func174.trans (congrArg some (by kernel_rfl))
  f40 := Tryz.func175.trans (congrArg some (by kernel_rfl))
  t0 := Tryz.underlying0
  a0 := Tryz.isAgg0
  z0 := Tryz.sizeOf0
  v0 := Tryz.zeroValue0
  i0 := by kernel_rfl
  t2 := Tryz.underlying2
  a2 := Tryz.isAgg2
  z2 := Tryz.sizeOf2
  v2 := Tryz.zeroValue2
  i2 := by kernel_rfl
  t3 := Tryz.underlying3
  a3 := Tryz.isAgg3
  z3 := Tryz.sizeOf3
  v3 := Tryz.zeroValue3
  i3 := by kernel_rfl
  t4 := Tryz.underlying4
  a4 := Tryz.isAgg4
  z4 := Tryz.sizeOf4
  v4 := Tryz.zeroValue4
  i4 := by kernel_rfl
  t5 := Tryz.underlying5
  a5 := Tryz.isAgg5
  z5 := Tryz.sizeOf5
  v5 := Tryz.zeroValue5
  i5 := by kernel_rfl
  t9 := Tryz.underlying9
  a9 := Tryz.isAgg9
  z9 := Tryz.sizeOf9
  v9 := Tryz.zeroValue9
  i9 := by kernel_rfl
  t20 := Tryz.underlying20
  a20 := Tryz.isAgg20
  z20 := Tryz.sizeOf20
  v20 := Tryz.zeroValue20
  i20 := by kernel_rfl
  t21 := Tryz.underlying21
  a21 := Tryz.isAgg21
  z21 := Tryz.sizeOf21
  v21 := Tryz.zeroValue21
  i21 := by kernel_rfl
  t22 := Tryz.underlying22
  a22 := Tryz.isAgg22
  z22 := Tryz.sizeOf22
  v22 := Tryz.zeroValue22
  i22 := by kernel_rfl
  t24 := Tryz.underlying122
  a24 := Tryz.isAgg122
  z24 := Tryz.sizeOf122
  v24 := Tryz.zeroValue122
  i24 := by kernel_rfl
  t25 := Tryz.underlying206
  a25 := Tryz.isAgg206
  z25 := Tryz.sizeOf206
  v25 := Tryz.zeroValue206
  i25 := by kernel_rfl
  t34 := Tryz.underlying247
  a34 := Tryz.isAgg247
  z34 := Tryz.sizeOf247
  v34 := Tryz.zeroValue247
  i34 := by kernel_rfl
  c34 := by kernel_rfl
  t36 := Tryz.underlying158
  a36 := Tryz.isAgg158
  z36 := Tryz.sizeOf158
  v36 := Tryz.zeroValue158
  i36 := by kernel_rfl
  t37 := Tryz.underlying27
  a37 := Tryz.isAgg27
  z37 := Tryz.sizeOf27
  v37 := Tryz.zeroValue27
  i37 := by kernel_rfl
  t39 := Tryz.underlying250
  a39 := Tryz.isAgg250
  z39 := Tryz.sizeOf250
  v39 := Tryz.zeroValue250
  i39 := by kernel_rfl
  t44 := Tryz.underlying257
  a44 := Tryz.isAgg257
  z44 := Tryz.sizeOf257
  v44 := Tryz.zeroValue257
  i44 := by kernel_rfl
  t47 := Tryz.underlying162
  a47 := Tryz.isAgg162
  z47 := Tryz.sizeOf162
  v47 := Tryz.zeroValue162
  i47 := by kernel_rfl
  t48 := Tryz.underlying261
  a48 := Tryz.isAgg261
  z48 := Tryz.sizeOf261
  v48 := Tryz.zeroValue261
  i48 := by kernel_rfl
  t50 := Tryz.underlying263
  a50 := Tryz.isAgg263
  z50 := Tryz.sizeOf263
  v50 := Tryz.zeroValue263
  i50 := by kernel_rfl
  t52 := Tryz.underlying211
  a52 := Tryz.isAgg211
  z52 := Tryz.sizeOf211
  v52 := Tryz.zeroValue211
  i52 := by kernel_rfl
  t55 := Tryz.underlying213
  a55 := Tryz.isAgg213
  z55 := Tryz.sizeOf213
  v55 := Tryz.zeroValue213
  i55 := by kernel_rfl
  t59 := Tryz.underlying235
  a59 := Tryz.isAgg235
  z59 := Tryz.sizeOf235
  v59 := Tryz.zeroValue235
  i59 := by kernel_rfl
  t60 := Tryz.underlying203
  a60 := Tryz.isAgg203
  z60 := Tryz.sizeOf203
  v60 := Tryz.zeroValue203
  i60 := by kernel_rfl
  t61 := Tryz.underlying236
  a61 := Tryz.isAgg236
  z61 := Tryz.sizeOf236
  t65 := Tryz.underlying259
  a65 := Tryz.isAgg259
  z65 := Tryz.sizeOf259
  v65 := Tryz.zeroValue259
  i65 := by kernel_rfl
  t66 := Tryz.underlying260
  a66 := Tryz.isAgg260
  z66 := Tryz.sizeOf260
  v66 := Tryz.zeroValue260
  i66 := by kernel_rfl
  t67 := Tryz.underlying35
  a67 := Tryz.isAgg35
  z67 := Tryz.sizeOf35
  v67 := Tryz.zeroValue35
  i67 := by kernel_rfl
  g0 := by kernel_rfl
  m0 := by kernel_rfl
  g1 := by kernel_rfl
  m1 := by kernel_rfl
  g2 := by kernel_rfl
  m2 := by kernel_rfl
  g3 := by kernel_rfl
  m3 := by kernel_rfl
  g4 := by kernel_rfl
  m4 := by kernel_rfl }
open Go.RowKit in
/-- strconv.ParseUint(s, 10, 64), AT EVERY STRING THAT SPELLS A uint64 ('Lib.parseUintB 64 s.data.toList = .ok u'): u, AND NO ERROR. (LAID: no walk: one application.) -/
theorem Tryz.strconv_ParseUint_10_at64_ok (s : ByteArray) (hmax : s.size ≤ 9223372036854775806) (u : Nat) (h : Lib.parseUintB 64 s.data.toList = .ok u) (w : World) :
    Calls Tryz.prog 137 #[.string s, .int .i64 10, .int .i64 64] w fun e w' => e = .returned (.tuple #[.int .u64 u, .nilIface]) ∧ (w' = w ∨ w' = Lib.bytesWorld w 5 s) := Any.strconv_ParseUint_10_at64_ok Tryz.laysPu14 s hmax u h w
open Go.RowKit in
/-- strconv.ParseUint(s, 10, 64), AT EVERY STRING THAT IS NO ROW OF DECIMAL DIGITS (a sign is a fault): 0, AND AN ERROR THAT IS NOT nil: a *NumError in a new block N: {Func: "ParseUint", Num: s's bytes, Err: what the variable ErrSyntax holds}. Of what was there nothing has turned. (LAID: no walk: one application.) -/
theorem Tryz.strconv_ParseUint_10_at64_syntax (s : ByteArray) (hlim : s.size ≤ 281474976710656) (h : Lib.parseUintB 64 s.data.toList = .«syntax») (ev : Value) (w : World) (hv : w.cell? ⟨7, 0, none⟩ = some ev) (hev : ev = .nilIface ∨ ∃ te pe, ev = .iface te pe) :
    Calls Tryz.prog 137 #[.string s, .int .i64 10, .int .i64 64] w fun e w' => ∃ N, e = .returned (.tuple #[.int .u64 0, .iface 250 (.pointer (some ⟨N, 0, none⟩))]) ∧ w.heap.size ≤ N ∧ w'.heap[N]? = some (.cells #[.string ⟨#[80, 97, 114, 115, 101, 85, 105, 110, 116]⟩, .string s, ev] 257 (0, 0)) ∧ Below w.heap.size w w' := Any.strconv_ParseUint_10_at64_syntax Tryz.laysPu14 s hlim h ev w hv hev
open Go.RowKit in
/-- strconv.ParseUint(s, 10, 64), AT EVERY NUMERAL THAT NO uint64 HOLDS: THE GREATEST uint64, AND AN ERROR THAT IS NOT nil: a *NumError in a new block N: {Func: "ParseUint", Num: s's bytes, Err: what the variable ErrRange holds}. Of what was there nothing has turned. (LAID: no walk: one application.) -/
theorem Tryz.strconv_ParseUint_10_at64_range (s : ByteArray) (hlim : s.size ≤ 281474976710656) (h : Lib.parseUintB 64 s.data.toList = .range) (ev : Value) (w : World) (hv : w.cell? ⟨8, 0, none⟩ = some ev) (hev : ev = .nilIface ∨ ∃ te pe, ev = .iface te pe) :
    Calls Tryz.prog 137 #[.string s, .int .i64 10, .int .i64 64] w fun e w' => ∃ N, e = .returned (.tuple #[.int .u64 18446744073709551615, .iface 250 (.pointer (some ⟨N, 0, none⟩))]) ∧ w.heap.size ≤ N ∧ w'.heap[N]? = some (.cells #[.string ⟨#[80, 97, 114, 115, 101, 85, 105, 110, 116]⟩, .string s, ev] 257 (0, 0)) ∧ Below w.heap.size w w' := Any.strconv_ParseUint_10_at64_range Tryz.laysPu14 s hlim h ev w hv hev
open Go.RowKit in
/-- strconv.ParseUint(s, 10, 32), AT EVERY STRING THAT SPELLS A uint32 ('Lib.parseUintB 32 s.data.toList = .ok u'): u, AND NO ERROR. (LAID: no walk: one application.) -/
theorem Tryz.strconv_ParseUint_10_at32_ok (s : ByteArray) (hmax : s.size ≤ 9223372036854775806) (u : Nat) (h : Lib.parseUintB 32 s.data.toList = .ok u) (w : World) :
    Calls Tryz.prog 137 #[.string s, .int .i64 10, .int .i64 32] w fun e w' => e = .returned (.tuple #[.int .u64 u, .nilIface]) ∧ (w' = w ∨ w' = Lib.bytesWorld w 5 s) := Any.strconv_ParseUint_10_at32_ok Tryz.laysPu14 s hmax u h w
open Go.RowKit in
/-- strconv.ParseUint(s, 10, 32), AT EVERY STRING THAT IS NO ROW OF DECIMAL DIGITS (a sign is a fault): 0, AND AN ERROR THAT IS NOT nil: a *NumError in a new block N: {Func: "ParseUint", Num: s's bytes, Err: what the variable ErrSyntax holds}. Of what was there nothing has turned. (LAID: no walk: one application.) -/
theorem Tryz.strconv_ParseUint_10_at32_syntax (s : ByteArray) (hlim : s.size ≤ 281474976710656) (h : Lib.parseUintB 32 s.data.toList = .«syntax») (ev : Value) (w : World) (hv : w.cell? ⟨7, 0, none⟩ = some ev) (hev : ev = .nilIface ∨ ∃ te pe, ev = .iface te pe) :
    Calls Tryz.prog 137 #[.string s, .int .i64 10, .int .i64 32] w fun e w' => ∃ N, e = .returned (.tuple #[.int .u64 0, .iface 250 (.pointer (some ⟨N, 0, none⟩))]) ∧ w.heap.size ≤ N ∧ w'.heap[N]? = some (.cells #[.string ⟨#[80, 97, 114, 115, 101, 85, 105, 110, 116]⟩, .string s, ev] 257 (0, 0)) ∧ Below w.heap.size w w' := Any.strconv_ParseUint_10_at32_syntax Tryz.laysPu14 s hlim h ev w hv hev
open Go.RowKit in
/-- strconv.ParseUint(s, 10, 32), AT EVERY NUMERAL THAT NO uint32 HOLDS: THE GREATEST uint32, AND AN ERROR THAT IS NOT nil: a *NumError in a new block N: {Func: "ParseUint", Num: s's bytes, Err: what the variable ErrRange holds}. Of what was there nothing has turned. (LAID: no walk: one application.) -/
theorem Tryz.strconv_ParseUint_10_at32_range (s : ByteArray) (hlim : s.size ≤ 281474976710656) (h : Lib.parseUintB 32 s.data.toList = .range) (ev : Value) (w : World) (hv : w.cell? ⟨8, 0, none⟩ = some ev) (hev : ev = .nilIface ∨ ∃ te pe, ev = .iface te pe) :
    Calls Tryz.prog 137 #[.string s, .int .i64 10, .int .i64 32] w fun e w' => ∃ N, e = .returned (.tuple #[.int .u64 4294967295, .iface 250 (.pointer (some ⟨N, 0, none⟩))]) ∧ w.heap.size ≤ N ∧ w'.heap[N]? = some (.cells #[.string ⟨#[80, 97, 114, 115, 101, 85, 105, 110, 116]⟩, .string s, ev] 257 (0, 0)) ∧ Below w.heap.size w w' := Any.strconv_ParseUint_10_at32_range Tryz.laysPu14 s hlim h ev w hv hev
def Tryz.lays146_ren : Go.Shelf.Ren := ⟨fun | 146 => 47 | 221 => 76 | 268 => 109 | 138 => 110 | 143 => 111 | 195 => 131 | 197 => 132 | 218 => 133 | 219 => 134 | 260 => 150 | 217 => 151 | 225 => 152 | 224 => 153 | 267 => 154 | 266 => 166 | 314 => 167 | n => n, fun | 9 => 9 | 31 => 73 | 3 => 3 | 4 => 4 | 0 => 0 | 105 => 196 | 21 => 21 | 5 => 5 | 46 => 158 | 119 => 176 | 139 => 242 | 138 => 241 | 146 => 243 | 51 => 203 | n => n, fun | 1 => 3 | 3 => 5 | 4 => 6 | n => n⟩
theorem Tryz.lays146 : Go.Proofs.Lays.n146 Tryz.prog Tryz.lays146_ren := {
  mixed := by kernel_rfl
  f138 := Tryz.func110.trans (congrArg some (by kernel_rfl))
  f143 := Tryz.func111.trans (congrArg some (by kernel_rfl))
  f146 := Tryz.func47.trans (congrArg some (by kernel_rfl))
  f195 := Tryz.func131.trans (congrArg some (by kernel_rfl))
  f197 := Tryz.func132.trans (congrArg some (by kernel_rfl))
  f217 := Tryz.func151.trans (congrArg some (by kernel_rfl))
  f218 := Tryz.func133.trans (congrArg some (by kernel_rfl))
  f219 := Tryz.func134.trans (congrArg some (by kernel_rfl))
  f221 := Tryz.func76.trans (congrArg some (by kernel_rfl))
  f224 := Tryz.func153.trans (congrArg some (by kernel_rfl))
  f225 := Tryz.func152.trans (congrArg some (by kernel_rfl))
  f260 := Tryz.func150.trans (congrArg some (by kernel_rfl))
  f266 := Tryz.func166.trans (congrArg some (by kernel_rfl))
  f267 := Tryz.func154.trans (congrArg some (by kernel_rfl))
  f268 := Tryz.func109.trans (congrArg some (by kernel_rfl))
  f314 := Tryz.func167.trans (congrArg some (by kernel_rfl))
  t0 := Tryz.underlying0
  a0 := Tryz.isAgg0
  z0 := Tryz.sizeOf0
  v0 := Tryz.zeroValue0
  t3 := Tryz.underlying3
  a3 := Tryz.isAgg3
  z3 := Tryz.sizeOf3
  v3 := Tryz.zeroValue3
  t4 := Tryz.underlying4
  a4 := Tryz.isAgg4
  z4 := Tryz.sizeOf4
  v4 := Tryz.zeroValue4
  t5 := Tryz.underlying5
  a5 := Tryz.isAgg5
  z5 := Tryz.sizeOf5
  v5 := Tryz.zeroValue5
  t9 := Tryz.underlying9
  a9 := Tryz.isAgg9
  z9 := Tryz.sizeOf9
  v9 := Tryz.zeroValue9
  t21 := Tryz.underlying21
  a21 := Tryz.isAgg21
  z21 := Tryz.sizeOf21
  v21 := Tryz.zeroValue21
  t31 := Tryz.underlying73
  a31 := Tryz.isAgg73
  z31 := Tryz.sizeOf73
  v31 := Tryz.zeroValue73
  t46 := Tryz.underlying158
  a46 := Tryz.isAgg158
  z46 := Tryz.sizeOf158
  v46 := Tryz.zeroValue158
  t51 := Tryz.underlying203
  a51 := Tryz.isAgg203
  z51 := Tryz.sizeOf203
  v51 := Tryz.zeroValue203
  t105 := Tryz.underlying196
  a105 := Tryz.isAgg196
  z105 := Tryz.sizeOf196
  v105 := Tryz.zeroValue196
  t119 := Tryz.underlying176
  a119 := Tryz.isAgg176
  z119 := Tryz.sizeOf176
  t138 := Tryz.underlying241
  a138 := Tryz.isAgg241
  z138 := Tryz.sizeOf241
  v138 := Tryz.zeroValue241
  t139 := Tryz.underlying242
  a139 := Tryz.isAgg242
  z139 := Tryz.sizeOf242
  v139 := Tryz.zeroValue242
  t146 := Tryz.underlying243
  a146 := Tryz.isAgg243
  z146 := Tryz.sizeOf243
  v146 := Tryz.zeroValue243
  g1 := by kernel_rfl
  g3 := by kernel_rfl
  g4 := by kernel_rfl }
open Go.RowKit Go.Lib in
/-- strings.Split. (LAID: no walk: one application.) -/
theorem Tryz.strings_Split (s sep : ByteArray) (m : Int) (w : World) (hs : s.size < 4294967281) (hm : w.cell? ⟨3, 0, none⟩ = some (.int .i64 m)) (h1 : 1 ≤ sep.size) :
    Calls Tryz.prog 47 #[.string s, .string sep] w fun e w' =>
      e = .returned (.slice (some ⟨w.heap.size, 0, none⟩) (Lib.countB s sep + 1) (Lib.countB s sep + 1)) ∧ w' = w.alloc (.cells ((Lib.splitB sep 0 (Lib.countB s sep) s).map Value.string).toArray 9) := Any.strings_Split Tryz.lays146 (by kernel_rfl) s sep m w hs hm h1
end Go.Proofs
namespace Go.Proofs.YtggfaalodojjkaaGreatDoor
set_option linter.unusedVariables false
namespace Wd
/-- a word cut to 32 bits, or as it is -/
def cut (n : Int) (a : Nat) : Nat := if n = 32 then a % 4294967296 else a
/-- a word as a number with a sign -/
def sgn (n : Int) (a : Nat) : Int :=
  if n = 32 then (if a % 4294967296 < 2147483648 then ((a % 4294967296 : Nat) : Int) else ((a % 4294967296 : Nat) : Int) - 4294967296)
  else (if a < 9223372036854775808 then (a : Int) else (a : Int) - 18446744073709551616)
def ok (n : Int) : Prop := n = 32 ∨ n = 64
def md (n : Int) : Nat := if n = 32 then 4294967296 else 18446744073709551616
theorem md_pow {n : Int} (h : ok n) : md n = 2 ^ n.toNat := by
  rcases h with rfl | rfl <;> rfl
theorem cut_lt {n : Int} {a : Nat} (h : ok n) (ha : a < 18446744073709551616) : cut n a < md n := by
  rcases h with rfl | rfl
  · simp [cut, md]; omega
  · simp [cut, md]; omega
theorem cut_mod {n : Int} {a : Nat} (h : ok n) (ha : a < 18446744073709551616) : cut n a = a % md n := by
  rcases h with rfl | rfl
  · simp [cut, md]
  · simp [cut, md]; omega
theorem cut_of_lt {n : Int} {a : Nat} (h : ok n) (ha : a < md n) : cut n a = a := by
  rcases h with rfl | rfl
  · simp [cut, md] at *; omega
  · simp [cut]
theorem sgn_of_lt {n : Int} {a : Nat} (h : ok n) (ha : a < md n) : sgn n a = if 2 * a < md n then (a : Int) else (a : Int) - md n := by
  rcases h with rfl | rfl
  · simp [sgn, md] at *
    rw [Nat.mod_eq_of_lt ha]
    split <;> split <;> omega
  · simp [sgn, md] at *
    split <;> split <;> omega
theorem sgn_emod {n : Int} {a : Nat} (h : ok n) (ha : a < md n) : sgn n a % (md n : Int) = a := by
  rw [sgn_of_lt h ha]
  split
  · exact Int.emod_eq_of_lt (by omega) (by omega)
  · have : ((a : Int) - md n) % (md n : Int) = (a : Int) % (md n : Int) := by simp
    rw [this]; exact Int.emod_eq_of_lt (by omega) (by omega)
def tst (op n : Int) (a b : Nat) : Bool :=
  if op = 0 then decide (a = b) else if op = 1 then decide (a ≠ b)
  else if op = 2 then decide (sgn n a < sgn n b) else if op = 3 then decide (a < b)
  else if op = 4 then decide (sgn n b < sgn n a) else if op = 5 then decide (b < a)
  else if op = 6 then decide (sgn n a ≤ sgn n b) else if op = 7 then decide (a ≤ b)
  else if op = 8 then decide (sgn n b ≤ sgn n a) else decide (b ≤ a)
def tz (op n : Int) (a b : Nat) : Nat := (tst op n (cut n a) (cut n b)).toNat
/-- 0: none; 2: divided by 0; 3: beyond -/
def trap (op n : Int) (a b : Nat) : Nat :=
  if op < 3 ∨ 6 < op then 0 else if b = 0 then 2
  else if op = 3 ∧ 2 * a = md n ∧ b + 1 = md n then 3 else 0
def bin (op n : Int) (a b : Nat) : Nat :=
  if op = 0 then (a + b) % md n
  else if op = 1 then (a + md n - b) % md n
  else if op = 2 then a * b % md n
  else if op = 3 then ((sgn n a).tdiv (sgn n b) % (md n : Int)).toNat
  else if op = 4 then a / b
  else if op = 5 then ((sgn n a).tmod (sgn n b) % (md n : Int)).toNat
  else if op = 6 then a % b
  else if op = 7 then a &&& b
  else if op = 8 then a ||| b
  else if op = 9 then a ^^^ b
  else if op = 10 then a * 2 ^ (b % n.toNat) % md n
  else if op = 11 then (sgn n a / 2 ^ (b % n.toNat) % (md n : Int)).toNat
  else if op = 12 then a / 2 ^ (b % n.toNat)
  else if op = 13 then a % 2 ^ (n.toNat - b % n.toNat) * 2 ^ (b % n.toNat) + a / 2 ^ (n.toNat - b % n.toNat)
  else a % 2 ^ (b % n.toNat) * 2 ^ (n.toNat - b % n.toNat) + a / 2 ^ (b % n.toNat)
/-- what a binary op answers: the word, the trap -/
def bz (op n : Int) (a b : Nat) : Nat := if trap op n (cut n a) (cut n b) = 0 then bin op n (cut n a) (cut n b) else 0
def tr (op n : Int) (a b : Nat) : Nat := trap op n (cut n a) (cut n b)
theorem sh_lt {n : Int} (h : ok n) (b : Nat) : b % n.toNat < n.toNat := Nat.mod_lt _ (by rcases h with rfl | rfl <;> decide)
theorem cut_mod_n {n : Int} {b : Nat} (h : ok n) : cut n b % n.toNat = b % n.toNat := by
  rcases h with rfl | rfl
  · simp [cut]
  · simp [cut]
theorem bin_lt {op n : Int} {a b : Nat} (h : ok n) (ha : a < md n) (hb : b < md n) : bin op n a b < md n := by
  have hm : 0 < md n := by omega
  have hz : ∀ x : Int, (x % (md n : Int)).toNat < md n := fun x => by
    have := Int.emod_lt_of_pos x (show (0 : Int) < md n by omega)
    have := Int.emod_nonneg x (show (md n : Int) ≠ 0 by omega)
    omega
  have hs := sh_lt h b
  have hmp := md_pow h
  have key : ∀ k m, k + m = n.toNat → a % 2 ^ m * 2 ^ k + a / 2 ^ m < md n := fun k m hkm => by
    have h1 : a % 2 ^ m < 2 ^ m := Nat.mod_lt _ (Nat.two_pow_pos _)
    have h2 : a / 2 ^ m < 2 ^ k := by
      rw [Nat.div_lt_iff_lt_mul (Nat.two_pow_pos _), ← Nat.pow_add, hkm, ← hmp]; exact ha
    have h3 : md n = 2 ^ m * 2 ^ k := by rw [hmp, ← hkm, Nat.pow_add, Nat.mul_comm]
    have h4 : (a % 2 ^ m + 1) * 2 ^ k ≤ 2 ^ m * 2 ^ k := Nat.mul_le_mul_right _ h1
    rw [Nat.succ_mul] at h4
    omega
  unfold bin
  by_cases e0 : op = 0
  · rw [if_pos e0]; exact Nat.mod_lt _ hm
  rw [if_neg e0]
  by_cases e1 : op = 1
  · rw [if_pos e1]; exact Nat.mod_lt _ hm
  rw [if_neg e1]
  by_cases e2 : op = 2
  · rw [if_pos e2]; exact Nat.mod_lt _ hm
  rw [if_neg e2]
  by_cases e3 : op = 3
  · rw [if_pos e3]; exact hz _
  rw [if_neg e3]
  by_cases e4 : op = 4
  · rw [if_pos e4]; exact Nat.lt_of_le_of_lt (Nat.div_le_self _ _) ha
  rw [if_neg e4]
  by_cases e5 : op = 5
  · rw [if_pos e5]; exact hz _
  rw [if_neg e5]
  by_cases e6 : op = 6
  · rw [if_pos e6]; exact Nat.lt_of_le_of_lt (Nat.mod_le _ _) ha
  rw [if_neg e6]
  by_cases e7 : op = 7
  · rw [if_pos e7]; rw [hmp] at ha hb ⊢; exact Nat.and_lt_two_pow _ hb
  rw [if_neg e7]
  by_cases e8 : op = 8
  · rw [if_pos e8]; rw [hmp] at ha hb ⊢; exact Nat.or_lt_two_pow ha hb
  rw [if_neg e8]
  by_cases e9 : op = 9
  · rw [if_pos e9]; rw [hmp] at ha hb ⊢; exact Nat.xor_lt_two_pow ha hb
  rw [if_neg e9]
  by_cases e10 : op = 10
  · rw [if_pos e10]; exact Nat.mod_lt _ hm
  rw [if_neg e10]
  by_cases e11 : op = 11
  · rw [if_pos e11]; exact hz _
  rw [if_neg e11]
  by_cases e12 : op = 12
  · rw [if_pos e12]; exact Nat.lt_of_le_of_lt (Nat.div_le_self _ _) ha
  rw [if_neg e12]
  by_cases e13 : op = 13
  · rw [if_pos e13]; exact key _ _ (by omega)
  rw [if_neg e13]
  exact key (n.toNat - b % n.toNat) (b % n.toNat) (by omega)
theorem bz_lt {op n : Int} {a b : Nat} (h : ok n) (ha : a < 18446744073709551616) (hb : b < 18446744073709551616) : bz op n a b < md n := by
  unfold bz
  split
  · exact bin_lt h (cut_lt h ha) (cut_lt h hb)
  · rcases h with rfl | rfl <;> decide
theorem md_le {n : Int} (h : ok n) : md n ≤ 18446744073709551616 := by rcases h with rfl | rfl <;> decide
/-! shifts -/
theorem shl_mul {n : Int} {a k : Nat} (h : ok n) (ha : a < 18446744073709551616) (hk : k < 18446744073709551616) :
    bz 10 n a k = bz 2 n a (2 ^ (k % n.toNat)) := by
  have h1 := sh_lt h k
  have h2 : 2 ^ (k % n.toNat) < md n := by rw [md_pow h]; exact Nat.pow_lt_pow_right (by decide) h1
  unfold bz trap bin
  simp [cut_of_lt h h2, cut_mod_n h]
theorem shr_div {n : Int} {a k : Nat} (h : ok n) (ha : a < 18446744073709551616) (hk : k < 18446744073709551616) :
    bz 12 n a k = bz 4 n a (2 ^ (k % n.toNat)) ∧ tr 4 n a (2 ^ (k % n.toNat)) = 0 := by
  have h1 := sh_lt h k
  have h2 : 2 ^ (k % n.toNat) < md n := by rw [md_pow h]; exact Nat.pow_lt_pow_right (by decide) h1
  have h3 : 2 ^ (k % n.toNat) ≠ 0 := by have := Nat.two_pow_pos (k % n.toNat); omega
  unfold bz tr trap bin
  simp [cut_of_lt h h2, cut_mod_n h]
/-! tests -/
theorem tst_lt {s : Bool} {n : Int} {a b : Nat} (h : ok n) (ha : a < 18446744073709551616) (hb : b < 18446744073709551616) :
    let op : Int := if s then 2 else 3
    tz op n a b + tz (op + 2) n a b + tz 0 n a b = 1 ∧ tz op n a b + tz (op + 6) n a b = 1 ∧
    tz (op + 2) n a b + tz (op + 4) n a b = 1 ∧ tz 0 n a b + tz 1 n a b = 1 ∧ tz op n b a = tz (op + 2) n a b := by
  have h1 := cut_lt h ha
  have h2 := cut_lt h hb
  have e1 := sgn_of_lt h h1
  have e2 := sgn_of_lt h h2
  obtain ⟨x, hx⟩ : ∃ x, x = cut n a := ⟨_, rfl⟩
  obtain ⟨y, hy⟩ : ∃ y, y = cut n b := ⟨_, rfl⟩
  unfold tz
  rw [← hx] at h1 e1
  rw [← hy] at h2 e2
  rw [← hx, ← hy]
  cases s
  · simp [tst]
    refine ⟨?_, ?_, ?_, ?_⟩
    all_goals
      by_cases c1 : x < y <;> by_cases c2 : y < x <;> by_cases c3 : x = y <;> by_cases c4 : y ≤ x <;> by_cases c5 : x ≤ y <;> simp [c1, c2, c3, c4, c5] <;> omega
  · simp [tst]
    have hxy : x = y ↔ sgn n x = sgn n y := by
      rw [e1, e2]
      split <;> split <;> omega
    simp only [hxy]
    generalize sgn n x = s at *
    generalize sgn n y = t at *
    refine ⟨?_, ?_, ?_, ?_⟩
    all_goals
      by_cases c1 : s < t <;> by_cases c2 : t < s <;> by_cases c3 : s = t <;> by_cases c4 : t ≤ s <;> by_cases c5 : s ≤ t <;> simp [c1, c2, c3, c4, c5] <;> omega
theorem tz_le (op n : Int) (a b : Nat) : tz op n a b ≤ 1 := by unfold tz; cases tst op n (cut n a) (cut n b) <;> simp
/-! division -/
theorem div_back {n : Int} {x y : Nat} (h : ok n) (hx : x < md n) (hy : y < md n) :
    ((((sgn n x).tdiv (sgn n y) % (md n : Int)).toNat * y % md n + ((sgn n x).tmod (sgn n y) % (md n : Int)).toNat) % md n = x) := by
  have hm : (md n : Int) ≠ 0 := by omega
  have q0 := Int.emod_nonneg ((sgn n x).tdiv (sgn n y)) hm
  have r0 := Int.emod_nonneg ((sgn n x).tmod (sgn n y)) hm
  have e1 := sgn_emod h hx
  have e2 := sgn_emod h hy
  have key : ((((sgn n x).tdiv (sgn n y) % (md n : Int)) * y % md n + ((sgn n x).tmod (sgn n y) % (md n : Int))) % md n = (x : Int)) := by
    have e3 := Int.tdiv_mul_add_tmod (sgn n x) (sgn n y)
    rw [← Int.add_emod, ]
    rw [Int.add_emod, Int.mul_emod, Int.emod_emod_of_dvd _ (Int.dvd_refl _), ← e2, Int.emod_emod_of_dvd _ (Int.dvd_refl _), ← Int.mul_emod, ← Int.add_emod, e3, e1]
  apply Int.ofNat_inj.1
  simp only [Int.natCast_emod, Int.natCast_add, Int.natCast_mul, Int.toNat_of_nonneg q0, Int.toNat_of_nonneg r0]
  exact key
theorem div_law {s : Bool} {n : Int} {a b : Nat} (h : ok n) (ha : a < 18446744073709551616) (hb : b < 18446744073709551616) :
    let op : Int := if s then 3 else 4
    (cut n b = 0 ∧ tr op n a b = 2 ∧ tr (op + 2) n a b = 2) ∨
    (cut n b ≠ 0 ∧ tr op n a b = 3 ∧ tr (op + 2) n a b = 0 ∧ bz (op + 2) n a b = 0 ∧ sgn n b = -1) ∨
    (cut n b ≠ 0 ∧ tr op n a b = 0 ∧ tr (op + 2) n a b = 0 ∧ bz 0 n (bz 2 n (bz op n a b) b) (bz (op + 2) n a b) = cut n a) := by
  have h1 := cut_lt h ha
  have h2 := cut_lt h hb
  have hcs : sgn n b = sgn n (cut n b) := by
    rcases h with rfl | rfl
    · simp [sgn, cut]
    · simp [sgn, cut]
  have cc : ∀ op a b, a < 18446744073709551616 → b < 18446744073709551616 → cut n (bz op n a b) = bz op n a b := fun op a b ha hb => cut_of_lt h (bz_lt h ha hb)
  have lt64 : ∀ op a b, a < 18446744073709551616 → b < 18446744073709551616 → bz op n a b < 18446744073709551616 := fun op a b ha hb => Nat.lt_of_lt_of_le (bz_lt h ha hb) (md_le h)
  intro op
  by_cases hb0 : cut n b = 0
  · refine .inl ⟨hb0, ?_, ?_⟩ <;> cases s <;> simp [op, tr, trap, hb0]
  · refine .inr ?_
    have ht : tr (op + 2) n a b = 0 := by cases s <;> simp [op, tr, trap, hb0]
    have hmul : ∀ x y, bz 2 n x y = cut n x * cut n y % md n := fun x y => by simp [bz, trap, bin]
    have hadd : ∀ x y, bz 0 n x y = (cut n x + cut n y) % md n := fun x y => by simp [bz, trap, bin]
    by_cases ho : tr op n a b = 3
    · refine .inl ⟨hb0, ho, ht, ?_⟩
      cases s
      · simp [op, tr, trap, hb0] at ho
      · simp [op, tr, trap, hb0] at ho
        obtain ⟨o1, o2⟩ := ho
        have e2 : sgn n (cut n b) = -1 := by
          rw [sgn_of_lt h h2, if_neg (by rcases h with rfl | rfl <;> simp [md] at * <;> omega)]; omega
        refine ⟨?_, by rw [hcs, e2]⟩
        simp [op, bz, trap, bin, hb0, e2]
    · have ho2 : tr op n a b = 0 := by
        revert ho
        cases s
        · simp [op, tr, trap, hb0]
        · simp only [op, tr, trap, hb0]
          simp
      refine .inr ⟨hb0, ho2, ht, ?_⟩
      rw [hadd, cc _ _ _ (lt64 _ _ _ ha hb) hb, cc _ _ _ ha hb, hmul, cc _ _ _ ha hb]
      have q1 : bz op n a b = bin op n (cut n a) (cut n b) := if_pos ho2
      have q2 : bz (op + 2) n a b = bin (op + 2) n (cut n a) (cut n b) := if_pos ht
      rw [q1, q2]
      cases s
      · simp [op, bin]
        have := Nat.div_add_mod (cut n a) (cut n b)
        rw [Nat.mul_comm] at this
        rw [this, Nat.mod_eq_of_lt h1]
      · simp only [op, bin]
        simp
        have := div_back h h1 h2
        simp at this
        exact this
end Wd
end Go.Proofs.YtggfaalodojjkaaGreatDoor
namespace Go.Proofs.YtggfaalodojjkaaGreatDoor
open Go.RowKit
set_option linter.unusedVariables false
theorem Cut_32 (a : Nat) (w : World) :
    Calls Tryz.prog 130 #[.int .i64 32, .int .u64 a] w fun e w' => e = .returned (.int .u64 ((Wd.cut 32 a : Nat) : Int)) ∧ w = w' := by
  go_enter Tryz.func130, Tryz.ntmps130
  go_wp2
  go_ret
  exact ⟨ret_int (by simp [Wd.cut]), rfl⟩
theorem Cut_no (n : Int) (a : Nat) (w : World) (h : n ≠ 32) :
    Calls Tryz.prog 130 #[.int .i64 n, .int .u64 a] w fun e w' => e = .returned (.int .u64 ((Wd.cut n a : Nat) : Int)) ∧ w = w' := by
  go_enter Tryz.func130, Tryz.ntmps130
  go_wp2
  go_ret
  exact ⟨ret_int (by simp [Wd.cut, h]), rfl⟩
theorem WCut_any (n : Int) (a : Nat) (w : World) :
    Calls Tryz.prog 130 #[.int .i64 n, .int .u64 a] w fun e w' => e = .returned (.int .u64 ((Wd.cut n a : Nat) : Int)) ∧ w = w' := by
  by_cases h : n = 32
  · subst h; exact Cut_32 a w
  · exact Cut_no n a w h
theorem Sign_32 (a : Nat) (w : World) :
    Calls Tryz.prog 93 #[.int .i64 32, .int .u64 a] w fun e w' => e = .returned (.int .i64 (Wd.sgn 32 a)) ∧ w = w' := by
  go_enter Tryz.func93, Tryz.ntmps93
  go_wp2
  go_ret
  exact ⟨ret_int (by simp [Wd.sgn]; unfold wrap64 wrap32; split <;> omega), rfl⟩
theorem Sign_no (n : Int) (a : Nat) (w : World) (h : n ≠ 32) (ha : a < 18446744073709551616) :
    Calls Tryz.prog 93 #[.int .i64 n, .int .u64 a] w fun e w' => e = .returned (.int .i64 (Wd.sgn n a)) ∧ w = w' := by
  go_enter Tryz.func93, Tryz.ntmps93
  go_wp2
  go_ret
  exact ⟨ret_int (by simp [Wd.sgn, h]; unfold wrap64; split <;> omega), rfl⟩
theorem Sign_any (n : Int) (a : Nat) (w : World) (ha : a < 18446744073709551616) :
    Calls Tryz.prog 93 #[.int .i64 n, .int .u64 a] w fun e w' => e = .returned (.int .i64 (Wd.sgn n a)) ∧ w = w' := by
  by_cases h : n = 32
  · subst h; exact Sign_32 a w
  · exact Sign_no n a w h ha
theorem sgn_fit (n : Int) (a : Nat) (ha : a < 18446744073709551616) : -9223372036854775808 ≤ Wd.sgn n a ∧ Wd.sgn n a ≤ 9223372036854775807 := by
  unfold Wd.sgn
  split <;> split <;> omega
end Go.Proofs.YtggfaalodojjkaaGreatDoor
namespace Go.Proofs.YtggfaalodojjkaaGreatDoor
open Go.RowKit Go.ChangeShapes Go.WideShapes Go.ChangeAt Go.Sort Go.Lib
set_option linter.unusedVariables false
set_option linter.unusedSimpArgs false
def bs (l : List UInt8) : ByteArray := ⟨l.toArray⟩
theorem bs_size (a : List UInt8) : (bs a).size = a.length := by simp [bs, ByteArray.size]
theorem bs_app (a b : List UInt8) : bs a ++ bs b = bs (a ++ b) := by
  apply ByteArray.ext; simp [bs, ByteArray.data_append]
theorem bs_list (a : List UInt8) : (bs a).toList = a := by rw [Lib.toList_data]; simp [bs]
theorem bs_beq (a b : List UInt8) : ((bs a).toList == (bs b).toList) = (a == b) := by rw [bs_list, bs_list]
theorem cat_bs (a b : List UInt8) (h : a.length + b.length ≤ 100000) : Op.stringOp .add (bs a) (bs b) = pure (.string (bs (a ++ b))) := by
  unfold Op.stringOp
  simp only []
  rw [if_neg, bs_app]
  show ¬ ((((bs a).size + (bs b).size : Nat) : Int) > 9223372036854775807)
  rw [bs_size, bs_size]; omega
/-- what the laws of texts want of the variables -/
structure Lw (w : World) : Prop where
  tb : Tb w ∧ 0 < w.heap.size
  ml : 3 < w.heap.size ∧ ∃ m, w.cell? ⟨3, 0, none⟩ = some (.int .i64 m)
  tab : Lib.TabIs Tryz.prog w "internal/strconv.uint64pow10" .u64 Lib.pow10Tab
  es : 7 < w.heap.size ∧ ∃ te pe, w.cell? ⟨7, 0, none⟩ = some (.iface te pe)
  er : 8 < w.heap.size ∧ ∃ te pe, w.cell? ⟨8, 0, none⟩ = some (.iface te pe)
  db : 10 < w.heap.size ∧ w.cell? ⟨10, 15, none⟩ = some (.int .u8 4)
theorem Lw.below {w w' : World} (h : Lw w) (hb : Below w.heap.size w w') : Lw w' :=
  ⟨⟨fun i hi => (hb.cell (p := ⟨0, i, none⟩) h.tb.2).trans (h.tb.1 i hi), Nat.lt_of_lt_of_le h.tb.2 hb.size⟩,
    ⟨Nat.lt_of_lt_of_le h.ml.1 hb.size, by obtain ⟨m, e⟩ := h.ml.2; exact ⟨m, (hb.cell (p := ⟨3, 0, none⟩) h.ml.1).trans e⟩⟩,
    Lib.tabBelow_of_tabIs h.tab w' hb,
    ⟨Nat.lt_of_lt_of_le h.es.1 hb.size, by obtain ⟨te, pe, e⟩ := h.es.2; exact ⟨te, pe, (hb.cell (p := ⟨7, 0, none⟩) h.es.1).trans e⟩⟩,
    ⟨Nat.lt_of_lt_of_le h.er.1 hb.size, by obtain ⟨te, pe, e⟩ := h.er.2; exact ⟨te, pe, (hb.cell (p := ⟨8, 0, none⟩) h.er.1).trans e⟩⟩,
    ⟨Nat.lt_of_lt_of_le h.db.1 hb.size, (hb.cell (p := ⟨10, 15, none⟩) h.db.1).trans h.db.2⟩⟩
theorem al82 : Tryz.prog.arrayLen 211 = 24 := by kernel_rfl
set_option maxHeartbeats 4000000 in
set_option maxRecDepth 100000 in
theorem IFU10 (u : Nat) (hu : u < 18446744073709551616) (w : World) (hL : Lw w) :
    Calls Tryz.prog 121 #[.int .u64 u, .int .i64 10] w fun e w' => e = .returned (.string (bs (Lib.decDigits u))) ∧ Below w.heap.size w w' := by
  by_cases hs : u < 100
  · have S := Lib.hid (fun W : World => Tryz.internal_strconv_small u hs W)
    go_enter Tryz.func121, Tryz.ntmps121
    go_wp2_with (go_at_call 140; refine (S.out _).mono ?_; rintro e w' ⟨rfl, rfl⟩)
    go_ret
    exact ⟨rfl, Below.refl _ _⟩
  · have h1 : 1 ≤ u := by omega
    have hn20 : Lib.nDigits u ≤ 20 := by have := Lib.numDigits_eq u h1 hu; split at this <;> omega
    obtain ⟨d, ed⟩ : ∃ d, d = Lib.nDigits u := ⟨_, rfl⟩
    have ND := Lib.hid (Tryz.internal_strconv_numDigits u h1 hu (w.alloc (.cells Lib.zeros24 211)) (Lib.tabIs_alloc hL.tab _))
    have hz := Lib.holds_zero0 w 211 (Lib.nDigits u) (by omega)
    have FB := Tryz.internal_strconv_formatBase10 w.heap.size 0 24 u (Array.replicate (Lib.nDigits u) 0) (w.alloc (.cells Lib.zeros24 211)) hz (by rw [Array.size_replicate]; exact Lib.lt_pow_nDigits u) hu (by rw [Array.size_replicate]; omega)
    rw [Array.size_replicate] at FB
    have HZ := Lib.hid hz
    have HFB := Lib.hid FB
    have hcut : ∀ W, (Instr.sliceAt 211 (.pointer (some ⟨w.heap.size, 0, none⟩)) none (some (.int .i64 ((Lib.nDigits u : Nat) : Int))) none).run Tryz.prog W = .ok (.slice (some ⟨w.heap.size, 0, none⟩) (Lib.nDigits u) 24) W := fun W => by
      rw [run_sliceAt_array_h W 211 ⟨w.heap.size, 0, none⟩ (by simp [Program.arrayLen, Program.elem, Tryz.underlying211]) .i64 ((Lib.nDigits u : Nat) : Int) (by omega) (by rw [al82]; omega)]
      go_simp
    have CV : Hid (∀ (k v' : Nat) (dk : Array UInt8), FmtInv (Lib.nDigits u) u 0 v' dk → (convert 27 9 (.slice (some ⟨w.heap.size, 0, none⟩) (Lib.nDigits u) 24)).run Tryz.prog ((putRow (fun (b : UInt8) => Value.int .u8 (b.toNat : Int)) (w.alloc (.cells Lib.zeros24 211)) w.heap.size 0 dk).drewN k) = .ok (.string (bs (Lib.decDigits u))) ((putRow (fun (b : UInt8) => Value.int .u8 (b.toNat : Int)) (w.alloc (.cells Lib.zeros24 211)) w.heap.size 0 dk).drewN k)) := Lib.hid (fun k v' dk hF => by
      have h := run_convert_bytes_back (P := Tryz.prog) ((putRow (fun (b : UInt8) => Value.int .u8 (b.toNat : Int)) (w.alloc (.cells Lib.zeros24 211)) w.heap.size 0 dk).drewN k) 27 9 5 ⟨w.heap.size, 0, none⟩ 24 (Lib.decDigits u) Tryz.underlying27 Tryz.underlying5 Tryz.underlying9 (fun j hj => by
        rw [Lib.row_is_numeral hF j hj, Lib.add_plain, World.cell?_drewN]
        exact cell?_putRow (fun (b : UInt8) => Value.int .u8 (b.toNat : Int)) _ w.heap.size 0 _ dk HZ.out (by rw [hF.size, Array.size_replicate]) j (by rw [hF.size]; rw [Lib.decDigits_length] at hj; exact hj))
      rw [Lib.decDigits_length] at h
      exact h)
    have FIN : Hid (∀ (k : Nat) (dk : Array UInt8), Below w.heap.size w ((putRow (fun (b : UInt8) => Value.int .u8 (b.toNat : Int)) (w.alloc (.cells Lib.zeros24 211)) w.heap.size 0 dk).drewN k)) := Lib.hid (fun k dk => by
      rw [alloc_eq_grow]
      obtain ⟨os', _, e⟩ := putRow_grow_new (fun (b : UInt8) => Value.int .u8 (b.toNat : Int)) w #[.cells Lib.zeros24 211] w.heap.size 0 dk (Nat.le_refl _)
      rw [e]
      exact Lib.below_grow _ _ (Nat.le_refl _) _ _)
    have hd20 : ((Lib.nDigits u : Nat) : Int) ≤ 20 := by omega
    have hu100 : ¬ (u : Int) < 100 := by omega
    clear hz FB hL ed
    generalize Lib.nDigits u = nd at ND HFB hcut CV hd20
    go_enter Tryz.func121, Tryz.ntmps121
    go_wp2_with (first
      | (go_at_call 141; refine ND.out.mono ?_; rintro e w' ⟨rfl, rfl⟩)
      | (go_at_call 142; refine HFB.out.mono ?_; rintro e w' ⟨rfl, k, v', dk, rfl, hF⟩; have hcv := CV.out k v' dk hF; clear hF))
    go_ret
    exact ⟨rfl, FIN.out k dk⟩
theorem FU10 (u : Nat) (hu : u < 18446744073709551616) (w : World) (hL : Lw w) :
    Calls Tryz.prog 91 #[.int .u64 u, .int .i64 10] w fun e w' => e = .returned (.string (bs (Lib.decDigits u))) ∧ Below w.heap.size w w' := by
  have H := Lib.hid (IFU10 u hu w hL)
  clear hL hu
  go_enter Tryz.func91, Tryz.ntmps91
  go_wp2_with (go_at_call 121; refine H.out.mono ?_; rintro e w' ⟨rfl, hb⟩; have HB := Lib.hid hb; clear hb)
  go_ret
  exact ⟨rfl, HB.out⟩
theorem FI10 (n : Int) (h0 : -9223372036854775808 ≤ n) (h1 : n ≤ 9223372036854775807) (w : World) (hL : Lw w) :
    Calls Tryz.prog 92 #[.int .i64 n, .int .i64 10] w fun e w' => e = .returned (.string (bs (Lib.itoa n))) ∧ Below w.heap.size w w' := by
  refine (Tryz.strconv_FormatInt_10 n h0 h1 w hL.tab).mono ?_
  rintro e w' ⟨rfl, k, os, rfl⟩
  exact ⟨rfl, Lib.below_grow _ _ (Nat.le_refl _) _ _⟩
/-- conv.Print -/
theorem Print_ok (n : Int) (a : Nat) (ha : a < 18446744073709551616) (w : World) (hL : Lw w) :
    Calls Tryz.prog 64 #[.int .i64 n, .int .u64 a] w fun e w' => e = .returned (.string (bs (Lib.itoa (Wd.sgn n a)))) ∧ Below w.heap.size w w' := by
  have hf := sgn_fit n a ha
  have S := Lib.hid (fun W : World => Sign_any n a W ha)
  have F := Lib.hid (FI10 (Wd.sgn n a) (by omega) (by omega) w hL)
  generalize Wd.sgn n a = x at S F
  clear hL ha hf
  go_enter Tryz.func64, Tryz.ntmps64
  go_wp2_with (first
    | (go_at_call 93; refine (S.out _).mono ?_; rintro e w1 ⟨rfl, rfl⟩)
    | (go_at_call 92; refine F.out.mono ?_; rintro e w2 ⟨rfl, hb⟩; have HB := Lib.hid hb; clear hb))
  go_ret
  exact ⟨rfl, HB.out⟩
end Go.Proofs.YtggfaalodojjkaaGreatDoor
