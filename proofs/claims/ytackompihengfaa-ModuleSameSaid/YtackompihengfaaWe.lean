/-
  Rows that a call has made, and frames: what holds of them.
-/
import Derived.Test.YtackompihengfaaWEc
import Derived.Deep.RegionWith
import Derived.OwnWalk
import Derived.Laws.OwnMore
import Derived.Laws.CopyOwn
import Derived.Maps.AppendAt
import Derived.Deep.RegionLaw
import Derived.Outline
import Derived.Deep.Upon
import Derived.Deep.RegionHeld3
namespace Go.Proofs.Ytackompihengfaa
open Go.RowKit
set_option linter.unusedVariables false
set_option linter.unusedSimpArgs false
/-- append in a region that draws its order, by an equation on its run -/
theorem step_append_run {P : Program} {ops : Array Oper} {o : Oper} {a : Act} {w : World} {K : Act → World → Prop} {Q : Exit → Act → World → Prop} {E : Prop} (hgd : o.guard = none) (s x : Operand) (T : TypeId)
    (ho : o.op = .call { callee := .builtin .append, args := #[s, x], argTypes := #[T, T] }) (v xv v' : Value) (w' : World) (hs : a.eval s = v) (hx : a.eval x = xv)
    (hrun : Hid (∀ ty, (Builtin.append_ #[T, T] ty #[v, xv]).run P w = .ok v' w')) (h : K (a.put o.dst v') w') :
    if Region.wanted o (yielded ops a.tmps) = true then Oper.wp P o a w K Q else E := by
  have hw : Region.wanted o (yielded ops a.tmps) = true := by simp [Region.wanted, hgd]
  rw [if_pos hw]
  unfold Oper.wp
  simp [execOp, ho, resolve, invoke, builtin, hs, hx, hrun.out o.type, Result.andThen]
  exact h
theorem Fr.grownV {w w' : World} {o : Option Nat} (h : w.grownBy w' o) : Fr (fun k => o = some k) w w' := ⟨h.os, h.tape, h.output, h.size, fun i hi hs => h.block i hi (fun e => hs e.symm)⟩
theorem own_slice {base E size : Nat} {w : World} {v : Value} {n : Nat} {xs : List Value} (h : w.ownsRow base E size v n xs) : ∃ A cp, v = .slice A n cp := by
  rcases h.2 with ⟨e, h0⟩ | ⟨g, cap, cur, e, _⟩
  · subst h0; exact ⟨_, _, e⟩
  · exact ⟨_, _, e⟩
theorem own_ty {base E size : Nat} {w : World} {v : Value} {n k : Nat} {xs : List Value} (h : w.ownsRow base E size v n xs) (hk : v.ownBlock = some k) : ∃ cs, Blk w k E cs := by
  rcases h.2 with ⟨e, _⟩ | ⟨g, cap, cur, e, _, hg, _⟩
  · rw [e] at hk; cases hk
  · rw [e] at hk; cases hk; exact ⟨cur, hg⟩
/-- a row whose block is as it was -/
theorem own_fr {S : Nat → Prop} {base E size : Nat} {w w' : World} {v : Value} {n : Nat} {xs : List Value} (h : w.ownsRow base E size v n xs) (hf : Fr S w w') (hne : ∀ k, v.ownBlock = some k → ¬ S k) : w'.ownsRow base E size v n xs := by
  refine ⟨h.1, ?_⟩
  rcases h.2 with h2 | ⟨g, cap, cur, e, hB, hg, rest⟩
  · exact .inl h2
  · exact .inr ⟨g, cap, cur, e, hB, hf.keep hg (hne g (by rw [e]; rfl)), rest⟩
theorem own_some {base E size : Nat} {w : World} {v : Value} {n : Nat} {xs : List Value} (h : w.ownsRow base E size v n xs) (hn : 0 < n) : ∃ g cp, v = .slice (some ⟨g, 0, none⟩) n cp ∧ n ≤ cp ∧ cp ≤ maxLen := by
  rcases h.2 with ⟨e, h0⟩ | ⟨g, cap, cur, e, _, _, hc, hm, _⟩
  · omega
  · exact ⟨g, cap, e, hc, hm⟩
theorem own_cut {base E size g n c m : Nat} {w : World} {xs : List Value} (h : w.ownsRow base E size (.slice (some ⟨g, 0, none⟩) n c) n xs) (hm : m ≤ n) : w.ownsRow base E size (.slice (some ⟨g, 0, none⟩) m c) m (xs.take (m * size)) := by
  rcases h.2 with ⟨e, _⟩ | ⟨g', cap, cur, e, hB, hg, hnc, hcm, hcs, htk⟩
  · cases e
  · cases e
    refine ⟨?_, .inr ⟨g, c, cur, rfl, hB, hg, by omega, hcm, hcs, ?_⟩⟩
    · rw [List.length_take, h.1]; exact Nat.min_eq_left (Nat.mul_le_mul_right _ hm)
    · rw [← htk, List.take_take, Nat.min_eq_left (Nat.mul_le_mul_right _ hm)]
theorem own_setRow {base E size g : Nat} {w : World} {cs : Array Value} {v : Value} {n : Nat} {xs : List Value} (h : w.ownsRow base E size v n xs) (hg : g < base) : (w.setRow g cs).ownsRow base E size v n xs :=
  ⟨h.1, h.2.imp id fun ⟨g2, cap, cur, e, h1, h2, h3⟩ => ⟨g2, cap, cur, e, h1, (setRow_other w g g2 cs (by omega)).trans h2, h3⟩⟩
end Go.Proofs.Ytackompihengfaa
/-
  The law's To: an instruction copied.
-/
namespace Go.Proofs.Ytackompihengfaa
open Go.RowKit
set_option linter.unusedVariables false
set_option linter.unusedSimpArgs false
/-- an instruction as told -/
structure In where
  cd : Int
  a : Int
  b : Int
  al : Int
  l : List Int
def U64 (z : Int) : Value := .int .u64 z
def I5 (x : In) (s : Value) : List Value := [.int .i64 x.cd, .int .u64 x.a, .int .u64 x.b, .int .i64 x.al, s]
/-- a slice of words that can be read -/
def Sl (w : World) (B : Option Addr) (n cp : Nat) (l : List Int) : Prop :=
  l.length = n ∧ n ≤ cp ∧ cp ≤ maxLen ∧ (0 < n → ∃ g o, B = some ⟨g, o, none⟩ ∧ g < w.heap.size ∧ ∀ i, i < n → w.cell? ⟨g, o + i, none⟩ = some (U64 (l.getD i 0)))
theorem Sl.below {w w' : World} {B : Option Addr} {n cp : Nat} {l : List Int} (h : Sl w B n cp l) (hb : Below w.heap.size w w') : Sl w' B n cp l := by
  obtain ⟨h1, h2, h3, h4⟩ := h
  refine ⟨h1, h2, h3, fun h0 => ?_⟩
  obtain ⟨g, o, e, hg, hc⟩ := h4 h0
  exact ⟨g, o, e, Nat.lt_of_lt_of_le hg hb.size, fun i hi => (hb.cell (p := ⟨g, o + i, none⟩) hg).trans (hc i hi)⟩
theorem own_empty (w : World) (E size B : Nat) (hB : B ≤ w.heap.size) : (w.alloc (.cells #[] E)).ownsRow B E size (.slice (some ⟨w.heap.size, 0, none⟩) 0 0) 0 [] :=
  ⟨by simp, .inr ⟨w.heap.size, 0, #[], rfl, hB, heap_alloc_new w _, Nat.le_refl _, Nat.zero_le _, by simp, by simp⟩⟩
theorem info77 : (Try.prog.info? 77).map (fun i => (i.zero, i.size, i.bytes)) = some (some (.int .u64 0), 1, 8) := by kernel_rfl
/-- a row of words copied to an empty one -/
theorem cpy (B : Nat) (w : World) (hB : B ≤ w.heap.size) (A : Option Addr) (n c : Nat) (l : List Int) (h : Sl w A n c l) (hn : n ≤ 200000) :
    ∃ g cap w3, (∀ ty, (Builtin.append_ #[102, 102] ty #[.slice (some ⟨w.heap.size, 0, none⟩) 0 0, .slice A n c]).run Try.prog (w.alloc (.cells #[] 77)) = .ok (.slice (some ⟨g, 0, none⟩) n cap) w3) ∧
      w3.ownsRow B 77 1 (.slice (some ⟨g, 0, none⟩) n cap) n (l.map U64) ∧ Fr (fun _ => False) w w3 := by
  obtain ⟨i0, hi, hz0, hz1, hz2⟩ := info_parts info77
  obtain ⟨h1, h2, h3, h4⟩ := h
  subst h1
  have f0 : Fr (fun _ => False) w (w.alloc (.cells #[] 77)) := (Fr.refl _ w).alloc _
  have o0 := own_empty w 77 1 B hB
  rcases Nat.eq_zero_or_pos l.length with h0 | h0
  · have hl : l = [] := List.eq_nil_of_length_eq_zero h0
    subst hl
    refine ⟨w.heap.size, 0, _, fun ty => ?_, o0, f0⟩
    cases A with
    | none => exact run_append_nothing _ 102 102 ty 77 i0 Try.underlying102 hi _ 0 0 (Nat.le_refl _) _ (Src.ofNil _ Try.underlying102 c)
    | some a => exact run_append_nothing _ 102 102 ty 77 i0 Try.underlying102 hi _ 0 0 (Nat.le_refl _) _ (Src.ofSlice _ Try.underlying102 a 0 c [] (by simp) (by simp) (by simp))
  · obtain ⟨g, o, rfl, hg, hc⟩ := h4 h0
    have hr : ∀ ty, ∃ v' w', (Builtin.append_ #[102, 102] ty #[.slice (some ⟨w.heap.size, 0, none⟩) 0 0, .slice (some ⟨g, o, none⟩) l.length c]).run Try.prog (w.alloc (.cells #[] 77)) = .ok v' w' ∧ w'.ownsRow B 77 1 v' (0 + l.length) ([] ++ l.map U64) ∧ (w.alloc (.cells #[] 77)).grownBy w' (Value.slice (some ⟨w.heap.size, 0, none⟩) 0 0).ownBlock := fun ty => by
      obtain ⟨v', w', q1, q2, q3, _⟩ := run_append_own_at (P := Try.prog) (w.alloc (.cells #[] 77)) B 102 ty 77 i0 _ 1 8 Try.underlying102 hi hz0 hz1 hz2 rfl (by decide) _ 0 [] o0 ⟨g, o, none⟩ l.length c (l.map U64) (by simp) (fun j u hu => by
        have hj : j < l.length := by have := (List.getElem?_eq_some_iff.1 hu).1; simpa using this
        have e : (⟨g, o, none⟩ : Addr).add j = ⟨g, o + j, none⟩ := by cases j <;> simp [Addr.add]
        rw [e, (((Below.refl w.heap.size w).alloc (Nat.le_refl _) _).cell (p := ⟨g, o + j, none⟩) hg), hc j hj]
        rw [List.getElem?_map, List.getElem?_eq_getElem hj] at hu
        rw [List.getD_eq_getElem?_getD, List.getElem?_eq_getElem hj]
        exact hu) (fun u hu => by
        rw [List.mem_map] at hu
        obtain ⟨_, _, rfl⟩ := hu
        rfl) (by unfold maxLen; omega) (by omega) (by simp; omega)
      exact ⟨v', w', q1, q2, q3⟩
    obtain ⟨v', w', q1, q2, q3⟩ := hr 0
    rcases q2.2 with ⟨_, h9⟩ | ⟨g2, cap, cur, e, _⟩
    · omega
    · subst e
      rw [Nat.zero_add] at q1 q2
      refine ⟨g2, cap, w', fun ty => q1, q2, f0.trans_new (Fr.grownV q3) (fun i hi => ?_)⟩
      right
      simp only [Value.ownBlock, Option.some.injEq] at hi
      omega
/-- what To answers -/
def ToP (x : In) (w : World) (e : Ending) (w' : World) : Prop := Below w.heap.size w w' ∧ ∃ g c, e = .returned (.agg (I5 x (.slice (some ⟨g, 0, none⟩) x.l.length c)).toArray) ∧ w'.ownsRow w.heap.size 77 1 (.slice (some ⟨g, 0, none⟩) x.l.length c) x.l.length (x.l.map U64)
theorem step_store_row {P : Program} {ops : Array Oper} {o : Oper} {a : Act} {w : World} {K : Act → World → Prop} {Q : Exit → Act → World → Prop} {E : Prop} (hgd : o.guard = none) (ty : TypeId) (x y : Operand) (ho : o.op = .store ty x y)
    (g : Nat) (cells : Array Value) (hx : a.eval x = .pointer (some ⟨g, 0, none⟩)) (hy : a.eval y = .agg cells) (t : TypeId) (old : Array Value) (hg : Blk w g t old) (hi : (P.info? ty).map (·.size) = some cells.size) (hold : old.size = cells.size) (h1 : cells.all (·.oneCell') = true)
    (h : K (a.put o.dst undef) (w.setRow g cells)) : if Region.wanted o (yielded ops a.tmps) = true then Oper.wp P o a w K Q else E := by
  rw [if_pos (by simp [Region.wanted, hgd])]
  exact wp_store_row ty x y ho g cells hx hy t old hg hi hold h1 h
theorem fr_setRow (w : World) (g : Nat) (cs : Array Value) : Fr (fun k => k = g) w (w.setRow g cs) := ⟨rfl, rfl, rfl, by simp [World.setRow], fun i _ hs => setRow_other w g i cs (fun e => hs (by first | exact e | exact e.symm))⟩
theorem results84 : Try.f84.results = #[.cell 2 104] := by kernel_rfl
theorem info41b : (Try.prog.info? 104).map (·.size) = some 5 := by kernel_rfl
set_option maxHeartbeats 4000000 in
set_option maxRecDepth 100000 in
theorem To_ok (x : In) (A : Option Addr) (c : Nat) (w : World) (h : Sl w A x.l.length c x.l) (hn : x.l.length ≤ 200000) :
    Calls Try.prog 84 #[.agg (I5 x (.slice A x.l.length c)).toArray] w (ToP x w) := by
  obtain ⟨cd, a, b, al, l⟩ := x
  unfold I5
  dsimp only at h hn ⊢
  have hb0 : Below w.heap.size w (w.alloc (.cells #[.int .i64 cd, .int .u64 a, .int .u64 b, .int .i64 al, .slice A l.length c] 111)) := (Below.refl _ _).alloc (Nat.le_refl _) _
  have hP := Blk.new w 111 #[.int .i64 cd, .int .u64 a, .int .u64 b, .int .i64 al, .slice A l.length c]
  obtain ⟨W0, hW0⟩ : ∃ W, W = (w.alloc (.cells #[.int .i64 cd, .int .u64 a, .int .u64 b, .int .i64 al, .slice A l.length c] 111)).alloc (.cells #[.int .i64 0, .int .u64 0, .int .u64 0, .int .i64 0, .slice none 0 0] 104) := ⟨_, rfl⟩
  have hb : Below w.heap.size w W0 := by rw [hW0]; exact hb0.alloc hb0.size _
  have hP0 : Blk W0 w.heap.size 111 #[.int .i64 cd, .int .u64 a, .int .u64 b, .int .i64 al, .slice A l.length c] := by rw [hW0]; exact hP.alloc _
  have hR0 : Blk W0 (w.heap.size + 1) 104 #[.int .i64 0, .int .u64 0, .int .u64 0, .int .i64 0, .slice none 0 0] := by
    rw [hW0]
    have := Blk.new (w.alloc (.cells #[.int .i64 cd, .int .u64 a, .int .u64 b, .int .i64 al, .slice A l.length c] 111)) 104 #[.int .i64 0, .int .u64 0, .int .u64 0, .int .i64 0, .slice none 0 0]
    rw [World.size_alloc] at this
    exact this
  obtain ⟨g, cap, w3, hap, ho, hf⟩ := cpy w.heap.size W0.drew hb.size A l.length c l ((h.below hb).below ⟨rfl, rfl, rfl, Nat.le_refl _, fun _ _ => rfl⟩) hn
  have hP1 : Blk W0.drew w.heap.size 111 _ := hP0
  have hR1 : Blk W0.drew (w.heap.size + 1) 104 _ := hR0
  have hP2 : Blk (W0.drew.alloc (.cells #[] 77)) w.heap.size 111 _ := hP1.alloc _
  have hP3 := hP1.fr hf (fun h => h)
  have hR3 := hR1.fr hf (fun h => h)
  have hb3 : Below w.heap.size w w3 := hf.below (below_drew hb) hb.size (fun k hk => hk.elim)
  have HAP := Lib.hid hap
  have HO := Lib.hid ho
  have HB := Lib.hid hb3
  have HR := Lib.hid hR3
  have k0 : (fun W : World => W.cell? ⟨w.heap.size, 0, none⟩ = some (.int .i64 cd) ∧ W.cell? ⟨w.heap.size, 1, none⟩ = some (.int .u64 a) ∧ W.cell? ⟨w.heap.size, 2, none⟩ = some (.int .u64 b) ∧ W.cell? ⟨w.heap.size, 3, none⟩ = some (.int .i64 al) ∧ W.cell? ⟨w.heap.size, 4, none⟩ = some (.slice A l.length c)) W0.drew := ⟨hP1.cell 0, hP1.cell 1, hP1.cell 2, hP1.cell 3, hP1.cell 4⟩
  have k2 : (fun W : World => W.cell? ⟨w.heap.size, 0, none⟩ = some (.int .i64 cd) ∧ W.cell? ⟨w.heap.size, 1, none⟩ = some (.int .u64 a) ∧ W.cell? ⟨w.heap.size, 2, none⟩ = some (.int .u64 b) ∧ W.cell? ⟨w.heap.size, 3, none⟩ = some (.int .i64 al) ∧ W.cell? ⟨w.heap.size, 4, none⟩ = some (.slice A l.length c)) (W0.drew.alloc (.cells #[] 77)) := ⟨hP2.cell 0, hP2.cell 1, hP2.cell 2, hP2.cell 3, hP2.cell 4⟩
  have k3 : (fun W : World => W.cell? ⟨w.heap.size, 0, none⟩ = some (.int .i64 cd) ∧ W.cell? ⟨w.heap.size, 1, none⟩ = some (.int .u64 a) ∧ W.cell? ⟨w.heap.size, 2, none⟩ = some (.int .u64 b) ∧ W.cell? ⟨w.heap.size, 3, none⟩ = some (.int .i64 al) ∧ W.cell? ⟨w.heap.size, 4, none⟩ = some (.slice A l.length c)) w3 := ⟨hP3.cell 0, hP3.cell 1, hP3.cell 2, hP3.cell 3, hP3.cell 4⟩
  have KE := Lib.hid k0
  have KF := Lib.hid k2
  have KG := Lib.hid k3
  have k4 : (fun W : World => W.cell? ⟨w.heap.size, 0, none⟩ = some (.int .i64 cd) ∧ W.cell? ⟨w.heap.size, 1, none⟩ = some (.int .u64 a) ∧ W.cell? ⟨w.heap.size, 2, none⟩ = some (.int .u64 b) ∧ W.cell? ⟨w.heap.size, 3, none⟩ = some (.int .i64 al) ∧ W.cell? ⟨w.heap.size, 4, none⟩ = some (.slice A l.length c)) (w3.setRow (w.heap.size + 1) #[.int .i64 cd, .int .u64 a, .int .u64 b, .int .i64 al, .slice (some ⟨g, 0, none⟩) l.length cap]) := by
    have hP4 : Blk (w3.setRow (w.heap.size + 1) #[.int .i64 cd, .int .u64 a, .int .u64 b, .int .i64 al, .slice (some ⟨g, 0, none⟩) l.length cap]) w.heap.size 111 _ := (setRow_other w3 (w.heap.size + 1) w.heap.size _ (by omega)).trans hP3
    exact ⟨hP4.cell 0, hP4.cell 1, hP4.cell 2, hP4.cell 3, hP4.cell 4⟩
  have KH := Lib.hid k4
  clear k4
  have HW0 := Lib.hid hW0
  clear hap ho hb hb3 hb0 hP hP0 hR0 hP1 hR1 hP2 hP3 hR3 hf h hn k0 k2 k3 hW0
  go_enter Try.func84, Try.ntmps84
  go_upto_region 1 with fail
  rw [← HW0.out]
  refine wp_region_held_drew (S := (fun W : World => W.cell? ⟨w.heap.size, 0, none⟩ = some (.int .i64 cd) ∧ W.cell? ⟨w.heap.size, 1, none⟩ = some (.int .u64 a) ∧ W.cell? ⟨w.heap.size, 2, none⟩ = some (.int .u64 b) ∧ W.cell? ⟨w.heap.size, 3, none⟩ = some (.int .i64 al) ∧ W.cell? ⟨w.heap.size, 4, none⟩ = some (.slice A l.length c))) (by kernel_rfl) KE.out (fun hHeld => ?_)
  refine wpAnyH_take (i := 0) (oi := ?oi_1) (v := ?_) ?hi_1 (by kernel_rfl) ?hf_1 (by kernel_rfl) ?hQ_1 ?hy_1 (by assumption) ?_
  case hi_1 => simp only [List.getElem?_toArray, List.getElem?_cons_zero, List.getElem?_cons_succ]; rfl
  case hf_1 => kernel_rfl
  case hQ_1 => exact fun _ _ _ h => h
  case hy_1 =>
    refine Or.inl ⟨by rfl, ?_⟩
    intro W hSw
    obtain ⟨q0, q1, q2, q3, q4⟩ := hSw
    go_simp
    try with_reducible rfl
  try simp only [Act.put, List.setIfInBounds_toArray, List.set_cons_zero, List.set_cons_succ]
  refine wpAnyH_take (i := 1) (oi := ?oi_2) (v := ?_) ?hi_2 (by kernel_rfl) ?hf_2 (by kernel_rfl) ?hQ_2 ?hy_2 (by assumption) ?_
  case hi_2 => simp only [List.getElem?_toArray, List.getElem?_cons_zero, List.getElem?_cons_succ]; rfl
  case hf_2 => kernel_rfl
  case hQ_2 => exact fun _ _ _ h => h
  case hy_2 =>
    refine Or.inl ⟨by rfl, ?_⟩
    intro W hSw
    obtain ⟨q0, q1, q2, q3, q4⟩ := hSw
    go_simp
    try with_reducible rfl
  try simp only [Act.put, List.setIfInBounds_toArray, List.set_cons_zero, List.set_cons_succ]
  refine wpAnyH_take (i := 2) (oi := ?oi_3) (v := ?_) ?hi_3 (by kernel_rfl) ?hf_3 (by kernel_rfl) ?hQ_3 ?hy_3 (by assumption) ?_
  case hi_3 => simp only [List.getElem?_toArray, List.getElem?_cons_zero, List.getElem?_cons_succ]; rfl
  case hf_3 => kernel_rfl
  case hQ_3 => exact fun _ _ _ h => h
  case hy_3 =>
    refine Or.inl ⟨by rfl, ?_⟩
    intro W hSw
    obtain ⟨q0, q1, q2, q3, q4⟩ := hSw
    go_simp
    try with_reducible rfl
  try simp only [Act.put, List.setIfInBounds_toArray, List.set_cons_zero, List.set_cons_succ]
  refine wpAnyH_take (i := 3) (oi := ?oi_4) (v := ?_) ?hi_4 (by kernel_rfl) ?hf_4 (by kernel_rfl) ?hQ_4 ?hy_4 (by assumption) ?_
  case hi_4 => simp only [List.getElem?_toArray, List.getElem?_cons_zero, List.getElem?_cons_succ]; rfl
  case hf_4 => kernel_rfl
  case hQ_4 => exact fun _ _ _ h => h
  case hy_4 =>
    refine Or.inl ⟨by rfl, ?_⟩
    intro W hSw
    obtain ⟨q0, q1, q2, q3, q4⟩ := hSw
    go_simp
    try with_reducible rfl
  try simp only [Act.put, List.setIfInBounds_toArray, List.set_cons_zero, List.set_cons_succ]
  refine wpAnyH_take (i := 4) (oi := ?oi_5) (v := ?_) ?hi_5 (by kernel_rfl) ?hf_5 (by kernel_rfl) ?hQ_5 ?hy_5 (by assumption) ?_
  case hi_5 => simp only [List.getElem?_toArray, List.getElem?_cons_zero, List.getElem?_cons_succ]; rfl
  case hf_5 => kernel_rfl
  case hQ_5 => exact fun _ _ _ h => h
  case hy_5 =>
    refine Or.inl ⟨by rfl, ?_⟩
    intro W hSw
    obtain ⟨q0, q1, q2, q3, q4⟩ := hSw
    go_simp
    try with_reducible rfl
  try simp only [Act.put, List.setIfInBounds_toArray, List.set_cons_zero, List.set_cons_succ]
  refine wpAnyH_take (i := 5) (oi := ?oi_6) (v := ?_) ?hi_6 (by kernel_rfl) ?hf_6 (by kernel_rfl) ?hQ_6 ?hy_6 (by assumption) ?_
  case hi_6 => simp only [List.getElem?_toArray, List.getElem?_cons_zero, List.getElem?_cons_succ]; rfl
  case hf_6 => kernel_rfl
  case hQ_6 => exact fun _ _ _ h => h
  case hy_6 =>
    refine Or.inl ⟨by rfl, ?_⟩
    intro W hSw
    obtain ⟨q0, q1, q2, q3, q4⟩ := hSw
    go_simp
    try with_reducible rfl
  try simp only [Act.put, List.setIfInBounds_toArray, List.set_cons_zero, List.set_cons_succ]
  refine wpAnyH_take (i := 6) (oi := ?oi_7) (v := ?_) ?hi_7 (by kernel_rfl) ?hf_7 (by kernel_rfl) ?hQ_7 ?hy_7 (by assumption) ?_
  case hi_7 => simp only [List.getElem?_toArray, List.getElem?_cons_zero, List.getElem?_cons_succ]; rfl
  case hf_7 => kernel_rfl
  case hQ_7 => exact fun _ _ _ h => h
  case hy_7 =>
    refine Or.inl ⟨by rfl, ?_⟩
    intro W hSw
    obtain ⟨q0, q1, q2, q3, q4⟩ := hSw
    go_simp
    try with_reducible rfl
  try simp only [Act.put, List.setIfInBounds_toArray, List.set_cons_zero, List.set_cons_succ]
  refine wpAnyH_take (i := 7) (oi := ?oi_8) (v := ?_) ?hi_8 (by kernel_rfl) ?hf_8 (by kernel_rfl) ?hQ_8 ?hy_8 (by assumption) ?_
  case hi_8 => simp only [List.getElem?_toArray, List.getElem?_cons_zero, List.getElem?_cons_succ]; rfl
  case hf_8 => kernel_rfl
  case hQ_8 => exact fun _ _ _ h => h
  case hy_8 =>
    refine Or.inl ⟨by rfl, ?_⟩
    intro W hSw
    obtain ⟨q0, q1, q2, q3, q4⟩ := hSw
    go_simp
    try with_reducible rfl
  try simp only [Act.put, List.setIfInBounds_toArray, List.set_cons_zero, List.set_cons_succ]
  refine wpAnyH_take (i := 9) (oi := ?oi_9) (v := ?_) ?hi_9 (by kernel_rfl) ?hf_9 (by kernel_rfl) ?hQ_9 ?hy_9 (by assumption) ?_
  case hi_9 => simp only [List.getElem?_toArray, List.getElem?_cons_zero, List.getElem?_cons_succ]; rfl
  case hf_9 => kernel_rfl
  case hQ_9 => exact fun _ _ _ h => h
  case hy_9 =>
    refine Or.inl ⟨by rfl, ?_⟩
    intro W hSw
    obtain ⟨q0, q1, q2, q3, q4⟩ := hSw
    go_simp
    try with_reducible rfl
  try simp only [Act.put, List.setIfInBounds_toArray, List.set_cons_zero, List.set_cons_succ]
  refine wpAnyH_take (i := 10) (oi := ?oi_10) (v := ?_) ?hi_10 (by kernel_rfl) ?hf_10 (by kernel_rfl) ?hQ_10 ?hy_10 (by assumption) ?_
  case hi_10 => simp only [List.getElem?_toArray, List.getElem?_cons_zero, List.getElem?_cons_succ]; rfl
  case hf_10 => kernel_rfl
  case hQ_10 => exact fun _ _ _ h => h
  case hy_10 =>
    refine Or.inl ⟨by rfl, ?_⟩
    intro W hSw
    obtain ⟨q0, q1, q2, q3, q4⟩ := hSw
    go_simp
    try with_reducible rfl
  try simp only [Act.put, List.setIfInBounds_toArray, List.set_cons_zero, List.set_cons_succ]
  refine wpAnyH_ready (rs := [8]) (by kernel_rfl) (by simp) ?_
  refine AllReadyH.cons (o := ?oi_11) ?hi_11 (fun K hK => ?_) AllReadyH.nil
  case hi_11 => simp only [List.getElem?_toArray, List.getElem?_cons_zero, List.getElem?_cons_succ]; rfl
  go_simp
  refine hK.out _ _ KF.out (fun hHeld => ?_)
  clear hK K
  try simp only [Act.put, List.setIfInBounds_toArray, List.set_cons_zero, List.set_cons_succ]
  refine wpAnyH_ready (rs := [11]) (by kernel_rfl) (by simp) ?_
  refine AllReadyH.cons (o := ?oi_12) ?hi_12 (fun K hK => ?_) AllReadyH.nil
  case hi_12 => simp only [List.getElem?_toArray, List.getElem?_cons_zero, List.getElem?_cons_succ]; rfl
  refine step_append_run rfl (.tmp 11) (.tmp 13) 102 rfl (.slice (some ⟨W0.drew.heap.size, 0, none⟩) 0 0) (.slice A l.length c) (.slice (some ⟨g, 0, none⟩) l.length cap) w3 rfl rfl HAP ?_
  refine hK.out _ _ KG.out (fun hHeld => ?_)
  clear hK K
  try simp only [Act.put, List.setIfInBounds_toArray, List.set_cons_zero, List.set_cons_succ]
  refine wpAnyH_take (i := 12) (oi := ?oi_13) (v := ?_) ?hi_13 (by kernel_rfl) ?hf_13 (by kernel_rfl) ?hQ_13 ?hy_13 (by assumption) ?_
  case hi_13 => simp only [List.getElem?_toArray, List.getElem?_cons_zero, List.getElem?_cons_succ]; rfl
  case hf_13 => kernel_rfl
  case hQ_13 => exact fun _ _ _ h => h
  case hy_13 =>
    refine Or.inl ⟨by rfl, ?_⟩
    intro W hSw
    obtain ⟨q0, q1, q2, q3, q4⟩ := hSw
    go_simp
    try with_reducible rfl
  try simp only [Act.put, List.setIfInBounds_toArray, List.set_cons_zero, List.set_cons_succ]
  refine wpAnyH_ready (rs := [13]) (by kernel_rfl) (by simp) ?_
  refine AllReadyH.cons (o := ?oi_14) ?hi_14 (fun K hK => ?_) AllReadyH.nil
  case hi_14 => simp only [List.getElem?_toArray, List.getElem?_cons_zero, List.getElem?_cons_succ]; rfl
  refine step_store_row rfl 104 (.tmp 2) (.tmp 15) rfl (w.heap.size + 1) #[.int .i64 cd, .int .u64 a, .int .u64 b, .int .i64 al, .slice (some ⟨g, 0, none⟩) l.length cap] rfl rfl 104 _ HR.out (by kernel_rfl) rfl (by simp [Value.oneCell']) ?_
  refine hK.out _ _ KH.out (fun hHeld => ?_)
  clear hK K
  try simp only [Act.put, List.setIfInBounds_toArray, List.set_cons_zero, List.set_cons_succ]
  refine wpAnyH_done (by kernel_rfl) ?_ _
  clear hHeld
  go_wp2
  refine bodyPost_ret (v := .agg #[.int .i64 cd, .int .u64 a, .int .u64 b, .int .i64 al, .slice (some ⟨g, 0, none⟩) l.length cap]) (results_cell_row results84 _ _ (w.heap.size + 1) 104 _ (0, 0) _ rfl (setRow_heap w3 (w.heap.size + 1) _ _ 104 (0, 0) HR.out) Try.underlying104 rfl (by kernel_rfl)) rfl ?_
  refine ⟨below_setRow HB.out (by omega) _, g, cap, rfl, own_fr HO.out (fr_setRow w3 (w.heap.size + 1) _) (fun k hk e => ?_)⟩
  obtain ⟨cs, hcs⟩ := own_ty HO.out hk
  exact hcs.ne_ HR.out (by decide) e
end Go.Proofs.Ytackompihengfaa
/-
  The law's Great; rows of instructions as told.
-/
namespace Go.Proofs.Ytackompihengfaa
open Go.RowKit
set_option linter.unusedVariables false
set_option linter.unusedSimpArgs false
/-- an instruction's five cells -/
def ItemAt (w : World) (b off : Nat) (x : In) : Prop := ∃ (B : Option Addr) (cp : Nat), w.cell? ⟨b, off, none⟩ = some (.int .i64 x.cd) ∧ w.cell? ⟨b, off + 1, none⟩ = some (.int .u64 x.a) ∧ w.cell? ⟨b, off + 2, none⟩ = some (.int .u64 x.b) ∧
  w.cell? ⟨b, off + 3, none⟩ = some (.int .i64 x.al) ∧ w.cell? ⟨b, off + 4, none⟩ = some (.slice B x.l.length cp) ∧ Sl w B x.l.length cp x.l
/-- a row of instructions -/
def IRow (w : World) (A : Option Addr) (m cap : Nat) (X : Nat → In) : Prop :=
  m ≤ cap ∧ cap ≤ maxLen ∧ (0 < m → ∃ b off, A = some ⟨b, off, none⟩ ∧ b < w.heap.size ∧ ∀ i, i < m → ItemAt w b (off + i * 5) (X i))
theorem ItemAt.below {w w' : World} {b off : Nat} {x : In} (h : ItemAt w b off x) (hb : Below w.heap.size w w') (hl : b < w.heap.size) : ItemAt w' b off x := by
  obtain ⟨B, cp, h0, h1, h2, h3, h4, h5⟩ := h
  exact ⟨B, cp, (hb.cell (p := ⟨b, off, none⟩) hl).trans h0, (hb.cell (p := ⟨b, off + 1, none⟩) hl).trans h1, (hb.cell (p := ⟨b, off + 2, none⟩) hl).trans h2, (hb.cell (p := ⟨b, off + 3, none⟩) hl).trans h3, (hb.cell (p := ⟨b, off + 4, none⟩) hl).trans h4, h5.below hb⟩
theorem IRow.below {w w' : World} {A : Option Addr} {m cap : Nat} {X : Nat → In} (h : IRow w A m cap X) (hb : Below w.heap.size w w') : IRow w' A m cap X := by
  obtain ⟨h1, h2, h3⟩ := h
  refine ⟨h1, h2, fun h0 => ?_⟩
  obtain ⟨b, off, e, hl, hi⟩ := h3 h0
  exact ⟨b, off, e, Nat.lt_of_lt_of_le hl hb.size, fun i hi' => (hi i hi').below hb hl⟩
/-- no more than memory holds -/
def IBd (m : Nat) (X : Nat → In) : Prop := m ≤ 140737488355328 ∧ ∀ i, i < m → (X i).l.length ≤ 140737488355328
def grF (m : Nat) (X : Nat → In) : Prop := m ≤ 150 ∧ ∀ i, i < m → (X i).l.length ≤ 110
/-- what Great tells -/
def GrP (n0 m : Nat) (X : Nat → In) (w : World) (e : Ending) (w' : World) : Prop := Below w.heap.size w w' ∧ ∃ r : Nat, e = .returned (.int .i64 (r : Nat)) ∧ (r : Int) ≤ 22517998136852480 ∧ (r = 0 ↔ n0 ≤ 60 ∧ grF m X)
set_option maxHeartbeats 4000000 in
set_option maxRecDepth 100000 in
theorem Great_00 (A0 : Option Addr) (n0 c0 : Nat) (h0 : n0 ≤ 140737488355328) (A : Option Addr) (m cap : Nat) (X : Nat → In) (w : World) (hbd : IBd m X) (hr : IRow w A m cap X) (hA0 : n0 < 60) (hB0 : m < 150) :
    Calls Try.prog 24 #[.agg #[.slice A0 n0 c0, .slice A m cap]] w (GrP n0 m X w) := by
  obtain ⟨hm, hc, hX⟩ := hr
  have hb0 : Below w.heap.size w (w.alloc (.cells #[.slice A0 n0 c0, .slice A m cap] 61)) := (Below.refl _ _).alloc (Nat.le_refl _) _
  have HB := Lib.hid hb0
  unfold maxLen at hc
  have HX : Hid (0 < m → ∃ b off, A = some ⟨b, off, none⟩ ∧ b < w.heap.size ∧ ∀ i, i < m → ItemAt (w.alloc (.cells #[.slice A0 n0 c0, .slice A m cap] 61)) b (off + i * 5) (X i)) := Lib.hid (fun h => by
    obtain ⟨b, off, e, hl, hi⟩ := hX h
    exact ⟨b, off, e, hl, fun i hi' => (hi i hi').below hb0 hl⟩)
  have hm1 := hbd.1
  have HD := Lib.hid hbd.2
  clear hX hb0 hbd
  go_enter Try.func24, Try.ntmps24
  go_wp2
  go_loop [3, 4] (fun v3 v4 => ∃ (k r : Nat), k ≤ m ∧ k ≤ 150 ∧ v4 = .int .i64 k ∧ v3 = .int .i64 r ∧ Hid ((r : Int) ≤ 281474976710656 + k * 140737488355328) ∧ Hid (r = 0 ↔ n0 ≤ 60 ∧ m ≤ 150 ∧ ∀ i, i < k → (X i).l.length ≤ 110)) (fun _ v4 => m - (intOf v4).toNat)
  case atStart =>
    refine ⟨0, 0 + 0, by omega, by omega, rfl, by first | rfl | (congr 1; omega), Lib.hid (by omega), Lib.hid ?_⟩
    constructor
    · intro h; exact ⟨by omega, by omega, fun i hi => by omega⟩
    · rintro ⟨h1, h2, _⟩; omega
  case round =>
    obtain ⟨k, r, hk, hk1, rfl, rfl, HR, HI⟩ := hrel
    by_cases hlt : k < m
    · by_cases hlt2 : k < 150
      · obtain ⟨b, off, rfl, hbl, hi⟩ := HX.out (by omega)
        obtain ⟨B, cp, c0', c1, c2, c3, c4, _⟩ := hi k hlt
        have hln := HD.out k hlt
        have HIK : Hid ((∀ i, i < k + 1 → (X i).l.length ≤ 110) ↔ (∀ i, i < k → (X i).l.length ≤ 110) ∧ (X k).l.length ≤ 110) := Lib.hid ⟨fun h => ⟨fun i hi => h i (by omega), h k (by omega)⟩, fun h i hi => by
          by_cases e : i = k
          · subst e; exact h.2
          · exact h.1 i (by omega)⟩
        clear hi
        generalize (X k).l.length = q at c4 hln HIK
        have hr1 : (r : Int) ≤ 21392098230009856 := by have := HR.out; omega
        by_cases hq : 110 ≤ q
        · go_wp2
          go_round
          case rel =>
            refine ⟨k + 1, r + (q - 110), by omega, by omega, by go_num, by congr 1; omega, Lib.hid (by have := HR.out; omega), Lib.hid ?_⟩
            constructor
            · intro h9; obtain ⟨h1, h2, h3⟩ := HI.out.1 (by omega); exact ⟨h1, h2, HIK.out.2 ⟨h3, by omega⟩⟩
            · rintro ⟨h1, h2, h3⟩; have h5 := HIK.out.1 h3; have h6 := HI.out.2 ⟨h1, h2, h5.1⟩; have := h5.2; omega
          case measure => simp [intOf]; omega
        · go_wp2
          go_round
          case rel =>
            refine ⟨k + 1, r, by omega, by omega, by go_num, by first | rfl | (congr 1; omega), Lib.hid (by have := HR.out; omega), Lib.hid ?_⟩
            have h := HI.out
            constructor
            · intro h9; obtain ⟨h1, h2, h3⟩ := h.1 h9; exact ⟨h1, h2, HIK.out.2 ⟨h3, by omega⟩⟩
            · rintro ⟨h1, h2, h3⟩; exact h.2 ⟨h1, h2, (HIK.out.1 h3).1⟩
          case measure => simp [intOf]; omega
      · obtain rfl : k = 150 := by omega
        first
          | (exfalso; omega)
          | (go_wp2
             go_ret
             refine ⟨HB.out, r, rfl, by have := HR.out; omega, ?_⟩
             have h := HI.out
             constructor
             · intro h9; have := (h.1 h9).2.1; omega
             · rintro ⟨_, h2, _⟩; omega)
    · obtain rfl : k = m := by omega
      go_wp2
      go_ret
      refine ⟨HB.out, r, rfl, by have := HR.out; omega, ?_⟩
      exact HI.out
set_option maxHeartbeats 4000000 in
set_option maxRecDepth 100000 in
theorem Great_01 (A0 : Option Addr) (n0 c0 : Nat) (h0 : n0 ≤ 140737488355328) (A : Option Addr) (m cap : Nat) (X : Nat → In) (w : World) (hbd : IBd m X) (hr : IRow w A m cap X) (hA0 : n0 < 60) (hB0 : 150 ≤ m) :
    Calls Try.prog 24 #[.agg #[.slice A0 n0 c0, .slice A m cap]] w (GrP n0 m X w) := by
  obtain ⟨hm, hc, hX⟩ := hr
  have hb0 : Below w.heap.size w (w.alloc (.cells #[.slice A0 n0 c0, .slice A m cap] 61)) := (Below.refl _ _).alloc (Nat.le_refl _) _
  have HB := Lib.hid hb0
  unfold maxLen at hc
  have HX : Hid (0 < m → ∃ b off, A = some ⟨b, off, none⟩ ∧ b < w.heap.size ∧ ∀ i, i < m → ItemAt (w.alloc (.cells #[.slice A0 n0 c0, .slice A m cap] 61)) b (off + i * 5) (X i)) := Lib.hid (fun h => by
    obtain ⟨b, off, e, hl, hi⟩ := hX h
    exact ⟨b, off, e, hl, fun i hi' => (hi i hi').below hb0 hl⟩)
  have hm1 := hbd.1
  have HD := Lib.hid hbd.2
  clear hX hb0 hbd
  go_enter Try.func24, Try.ntmps24
  go_wp2
  go_loop [3, 4] (fun v3 v4 => ∃ (k r : Nat), k ≤ m ∧ k ≤ 150 ∧ v4 = .int .i64 k ∧ v3 = .int .i64 r ∧ Hid ((r : Int) ≤ 281474976710656 + k * 140737488355328) ∧ Hid (r = 0 ↔ n0 ≤ 60 ∧ m ≤ 150 ∧ ∀ i, i < k → (X i).l.length ≤ 110)) (fun _ v4 => m - (intOf v4).toNat)
  case atStart =>
    refine ⟨0, 0 + (m - 150), by omega, by omega, rfl, by first | rfl | (congr 1; omega), Lib.hid (by omega), Lib.hid ?_⟩
    constructor
    · intro h; exact ⟨by omega, by omega, fun i hi => by omega⟩
    · rintro ⟨h1, h2, _⟩; omega
  case round =>
    obtain ⟨k, r, hk, hk1, rfl, rfl, HR, HI⟩ := hrel
    by_cases hlt : k < m
    · by_cases hlt2 : k < 150
      · obtain ⟨b, off, rfl, hbl, hi⟩ := HX.out (by omega)
        obtain ⟨B, cp, c0', c1, c2, c3, c4, _⟩ := hi k hlt
        have hln := HD.out k hlt
        have HIK : Hid ((∀ i, i < k + 1 → (X i).l.length ≤ 110) ↔ (∀ i, i < k → (X i).l.length ≤ 110) ∧ (X k).l.length ≤ 110) := Lib.hid ⟨fun h => ⟨fun i hi => h i (by omega), h k (by omega)⟩, fun h i hi => by
          by_cases e : i = k
          · subst e; exact h.2
          · exact h.1 i (by omega)⟩
        clear hi
        generalize (X k).l.length = q at c4 hln HIK
        have hr1 : (r : Int) ≤ 21392098230009856 := by have := HR.out; omega
        by_cases hq : 110 ≤ q
        · go_wp2
          go_round
          case rel =>
            refine ⟨k + 1, r + (q - 110), by omega, by omega, by go_num, by congr 1; omega, Lib.hid (by have := HR.out; omega), Lib.hid ?_⟩
            constructor
            · intro h9; obtain ⟨h1, h2, h3⟩ := HI.out.1 (by omega); exact ⟨h1, h2, HIK.out.2 ⟨h3, by omega⟩⟩
            · rintro ⟨h1, h2, h3⟩; have h5 := HIK.out.1 h3; have h6 := HI.out.2 ⟨h1, h2, h5.1⟩; have := h5.2; omega
          case measure => simp [intOf]; omega
        · go_wp2
          go_round
          case rel =>
            refine ⟨k + 1, r, by omega, by omega, by go_num, by first | rfl | (congr 1; omega), Lib.hid (by have := HR.out; omega), Lib.hid ?_⟩
            have h := HI.out
            constructor
            · intro h9; obtain ⟨h1, h2, h3⟩ := h.1 h9; exact ⟨h1, h2, HIK.out.2 ⟨h3, by omega⟩⟩
            · rintro ⟨h1, h2, h3⟩; exact h.2 ⟨h1, h2, (HIK.out.1 h3).1⟩
          case measure => simp [intOf]; omega
      · obtain rfl : k = 150 := by omega
        first
          | (exfalso; omega)
          | (go_wp2
             go_ret
             refine ⟨HB.out, r, rfl, by have := HR.out; omega, ?_⟩
             have h := HI.out
             constructor
             · intro h9; have := (h.1 h9).2.1; omega
             · rintro ⟨_, h2, _⟩; omega)
    · obtain rfl : k = m := by omega
      go_wp2
      go_ret
      refine ⟨HB.out, r, rfl, by have := HR.out; omega, ?_⟩
      exact HI.out
set_option maxHeartbeats 4000000 in
set_option maxRecDepth 100000 in
theorem Great_10 (A0 : Option Addr) (n0 c0 : Nat) (h0 : n0 ≤ 140737488355328) (A : Option Addr) (m cap : Nat) (X : Nat → In) (w : World) (hbd : IBd m X) (hr : IRow w A m cap X) (hA0 : 60 ≤ n0) (hB0 : m < 150) :
    Calls Try.prog 24 #[.agg #[.slice A0 n0 c0, .slice A m cap]] w (GrP n0 m X w) := by
  obtain ⟨hm, hc, hX⟩ := hr
  have hb0 : Below w.heap.size w (w.alloc (.cells #[.slice A0 n0 c0, .slice A m cap] 61)) := (Below.refl _ _).alloc (Nat.le_refl _) _
  have HB := Lib.hid hb0
  unfold maxLen at hc
  have HX : Hid (0 < m → ∃ b off, A = some ⟨b, off, none⟩ ∧ b < w.heap.size ∧ ∀ i, i < m → ItemAt (w.alloc (.cells #[.slice A0 n0 c0, .slice A m cap] 61)) b (off + i * 5) (X i)) := Lib.hid (fun h => by
    obtain ⟨b, off, e, hl, hi⟩ := hX h
    exact ⟨b, off, e, hl, fun i hi' => (hi i hi').below hb0 hl⟩)
  have hm1 := hbd.1
  have HD := Lib.hid hbd.2
  clear hX hb0 hbd
  go_enter Try.func24, Try.ntmps24
  go_wp2
  go_loop [3, 4] (fun v3 v4 => ∃ (k r : Nat), k ≤ m ∧ k ≤ 150 ∧ v4 = .int .i64 k ∧ v3 = .int .i64 r ∧ Hid ((r : Int) ≤ 281474976710656 + k * 140737488355328) ∧ Hid (r = 0 ↔ n0 ≤ 60 ∧ m ≤ 150 ∧ ∀ i, i < k → (X i).l.length ≤ 110)) (fun _ v4 => m - (intOf v4).toNat)
  case atStart =>
    refine ⟨0, (n0 - 60) + 0, by omega, by omega, rfl, by first | rfl | (congr 1; omega), Lib.hid (by omega), Lib.hid ?_⟩
    constructor
    · intro h; exact ⟨by omega, by omega, fun i hi => by omega⟩
    · rintro ⟨h1, h2, _⟩; omega
  case round =>
    obtain ⟨k, r, hk, hk1, rfl, rfl, HR, HI⟩ := hrel
    by_cases hlt : k < m
    · by_cases hlt2 : k < 150
      · obtain ⟨b, off, rfl, hbl, hi⟩ := HX.out (by omega)
        obtain ⟨B, cp, c0', c1, c2, c3, c4, _⟩ := hi k hlt
        have hln := HD.out k hlt
        have HIK : Hid ((∀ i, i < k + 1 → (X i).l.length ≤ 110) ↔ (∀ i, i < k → (X i).l.length ≤ 110) ∧ (X k).l.length ≤ 110) := Lib.hid ⟨fun h => ⟨fun i hi => h i (by omega), h k (by omega)⟩, fun h i hi => by
          by_cases e : i = k
          · subst e; exact h.2
          · exact h.1 i (by omega)⟩
        clear hi
        generalize (X k).l.length = q at c4 hln HIK
        have hr1 : (r : Int) ≤ 21392098230009856 := by have := HR.out; omega
        by_cases hq : 110 ≤ q
        · go_wp2
          go_round
          case rel =>
            refine ⟨k + 1, r + (q - 110), by omega, by omega, by go_num, by congr 1; omega, Lib.hid (by have := HR.out; omega), Lib.hid ?_⟩
            constructor
            · intro h9; obtain ⟨h1, h2, h3⟩ := HI.out.1 (by omega); exact ⟨h1, h2, HIK.out.2 ⟨h3, by omega⟩⟩
            · rintro ⟨h1, h2, h3⟩; have h5 := HIK.out.1 h3; have h6 := HI.out.2 ⟨h1, h2, h5.1⟩; have := h5.2; omega
          case measure => simp [intOf]; omega
        · go_wp2
          go_round
          case rel =>
            refine ⟨k + 1, r, by omega, by omega, by go_num, by first | rfl | (congr 1; omega), Lib.hid (by have := HR.out; omega), Lib.hid ?_⟩
            have h := HI.out
            constructor
            · intro h9; obtain ⟨h1, h2, h3⟩ := h.1 h9; exact ⟨h1, h2, HIK.out.2 ⟨h3, by omega⟩⟩
            · rintro ⟨h1, h2, h3⟩; exact h.2 ⟨h1, h2, (HIK.out.1 h3).1⟩
          case measure => simp [intOf]; omega
      · obtain rfl : k = 150 := by omega
        first
          | (exfalso; omega)
          | (go_wp2
             go_ret
             refine ⟨HB.out, r, rfl, by have := HR.out; omega, ?_⟩
             have h := HI.out
             constructor
             · intro h9; have := (h.1 h9).2.1; omega
             · rintro ⟨_, h2, _⟩; omega)
    · obtain rfl : k = m := by omega
      go_wp2
      go_ret
      refine ⟨HB.out, r, rfl, by have := HR.out; omega, ?_⟩
      exact HI.out
set_option maxHeartbeats 4000000 in
set_option maxRecDepth 100000 in
theorem Great_11 (A0 : Option Addr) (n0 c0 : Nat) (h0 : n0 ≤ 140737488355328) (A : Option Addr) (m cap : Nat) (X : Nat → In) (w : World) (hbd : IBd m X) (hr : IRow w A m cap X) (hA0 : 60 ≤ n0) (hB0 : 150 ≤ m) :
    Calls Try.prog 24 #[.agg #[.slice A0 n0 c0, .slice A m cap]] w (GrP n0 m X w) := by
  obtain ⟨hm, hc, hX⟩ := hr
  have hb0 : Below w.heap.size w (w.alloc (.cells #[.slice A0 n0 c0, .slice A m cap] 61)) := (Below.refl _ _).alloc (Nat.le_refl _) _
  have HB := Lib.hid hb0
  unfold maxLen at hc
  have HX : Hid (0 < m → ∃ b off, A = some ⟨b, off, none⟩ ∧ b < w.heap.size ∧ ∀ i, i < m → ItemAt (w.alloc (.cells #[.slice A0 n0 c0, .slice A m cap] 61)) b (off + i * 5) (X i)) := Lib.hid (fun h => by
    obtain ⟨b, off, e, hl, hi⟩ := hX h
    exact ⟨b, off, e, hl, fun i hi' => (hi i hi').below hb0 hl⟩)
  have hm1 := hbd.1
  have HD := Lib.hid hbd.2
  clear hX hb0 hbd
  go_enter Try.func24, Try.ntmps24
  go_wp2
  go_loop [3, 4] (fun v3 v4 => ∃ (k r : Nat), k ≤ m ∧ k ≤ 150 ∧ v4 = .int .i64 k ∧ v3 = .int .i64 r ∧ Hid ((r : Int) ≤ 281474976710656 + k * 140737488355328) ∧ Hid (r = 0 ↔ n0 ≤ 60 ∧ m ≤ 150 ∧ ∀ i, i < k → (X i).l.length ≤ 110)) (fun _ v4 => m - (intOf v4).toNat)
  case atStart =>
    refine ⟨0, (n0 - 60) + (m - 150), by omega, by omega, rfl, by first | rfl | (congr 1; omega), Lib.hid (by omega), Lib.hid ?_⟩
    constructor
    · intro h; exact ⟨by omega, by omega, fun i hi => by omega⟩
    · rintro ⟨h1, h2, _⟩; omega
  case round =>
    obtain ⟨k, r, hk, hk1, rfl, rfl, HR, HI⟩ := hrel
    by_cases hlt : k < m
    · by_cases hlt2 : k < 150
      · obtain ⟨b, off, rfl, hbl, hi⟩ := HX.out (by omega)
        obtain ⟨B, cp, c0', c1, c2, c3, c4, _⟩ := hi k hlt
        have hln := HD.out k hlt
        have HIK : Hid ((∀ i, i < k + 1 → (X i).l.length ≤ 110) ↔ (∀ i, i < k → (X i).l.length ≤ 110) ∧ (X k).l.length ≤ 110) := Lib.hid ⟨fun h => ⟨fun i hi => h i (by omega), h k (by omega)⟩, fun h i hi => by
          by_cases e : i = k
          · subst e; exact h.2
          · exact h.1 i (by omega)⟩
        clear hi
        generalize (X k).l.length = q at c4 hln HIK
        have hr1 : (r : Int) ≤ 21392098230009856 := by have := HR.out; omega
        by_cases hq : 110 ≤ q
        · go_wp2
          go_round
          case rel =>
            refine ⟨k + 1, r + (q - 110), by omega, by omega, by go_num, by congr 1; omega, Lib.hid (by have := HR.out; omega), Lib.hid ?_⟩
            constructor
            · intro h9; obtain ⟨h1, h2, h3⟩ := HI.out.1 (by omega); exact ⟨h1, h2, HIK.out.2 ⟨h3, by omega⟩⟩
            · rintro ⟨h1, h2, h3⟩; have h5 := HIK.out.1 h3; have h6 := HI.out.2 ⟨h1, h2, h5.1⟩; have := h5.2; omega
          case measure => simp [intOf]; omega
        · go_wp2
          go_round
          case rel =>
            refine ⟨k + 1, r, by omega, by omega, by go_num, by first | rfl | (congr 1; omega), Lib.hid (by have := HR.out; omega), Lib.hid ?_⟩
            have h := HI.out
            constructor
            · intro h9; obtain ⟨h1, h2, h3⟩ := h.1 h9; exact ⟨h1, h2, HIK.out.2 ⟨h3, by omega⟩⟩
            · rintro ⟨h1, h2, h3⟩; exact h.2 ⟨h1, h2, (HIK.out.1 h3).1⟩
          case measure => simp [intOf]; omega
      · obtain rfl : k = 150 := by omega
        first
          | (exfalso; omega)
          | (go_wp2
             go_ret
             refine ⟨HB.out, r, rfl, by have := HR.out; omega, ?_⟩
             have h := HI.out
             constructor
             · intro h9; have := (h.1 h9).2.1; omega
             · rintro ⟨_, h2, _⟩; omega)
    · obtain rfl : k = m := by omega
      go_wp2
      go_ret
      refine ⟨HB.out, r, rfl, by have := HR.out; omega, ?_⟩
      exact HI.out
theorem Great_ok (A0 : Option Addr) (n0 c0 : Nat) (h0 : n0 ≤ 140737488355328) (A : Option Addr) (m cap : Nat) (X : Nat → In) (w : World) (hbd : IBd m X) (hr : IRow w A m cap X) :
    Calls Try.prog 24 #[.agg #[.slice A0 n0 c0, .slice A m cap]] w (GrP n0 m X w) := by
  rcases Nat.lt_or_ge n0 60 with h1 | h1 <;> rcases Nat.lt_or_ge m 150 with h2 | h2
  · exact Great_00 A0 n0 c0 h0 A m cap X w hbd hr h1 h2
  · exact Great_01 A0 n0 c0 h0 A m cap X w hbd hr h1 h2
  · exact Great_10 A0 n0 c0 h0 A m cap X w hbd hr h1 h2
  · exact Great_11 A0 n0 c0 h0 A m cap X w hbd hr h1 h2
end Go.Proofs.Ytackompihengfaa
/-
  The law's List: a row of instructions copied.
-/
namespace Go.Proofs.Ytackompihengfaa
open Go.RowKit
set_option linter.unusedVariables false
set_option linter.unusedSimpArgs false
theorem own_base {B B' E size : Nat} {w : World} {v : Value} {n : Nat} {xs : List Value} (h : w.ownsRow B E size v n xs) (hB : B' ≤ B) : w.ownsRow B' E size v n xs :=
  ⟨h.1, h.2.imp id fun ⟨g, cap, cur, e, h1, h2⟩ => ⟨g, cap, cur, e, Nat.le_trans hB h1, h2⟩⟩
theorem own_kept {B E size : Nat} {w w' : World} {v : Value} {n : Nat} {xs : List Value} (h : w.ownsRow B E size v n xs) (hb : Below w.heap.size w w') : w'.ownsRow B E size v n xs :=
  own_fr h (Fr.of_below (S := fun _ => False) hb) (fun _ _ e => e)
def rowC (X : Nat → In) (S : Nat → Value) (m : Nat) : List Value := (List.range m).flatMap fun i => I5 (X i) (S i)
theorem rowC_succ (X : Nat → In) (S : Nat → Value) (k : Nat) : rowC X S (k + 1) = rowC X S k ++ I5 (X k) (S k) := by simp [rowC, List.range_succ]
theorem rowC_len (X : Nat → In) (S : Nat → Value) : ∀ k, (rowC X S k).length = k * 5
  | 0 => rfl
  | k + 1 => by rw [rowC_succ, List.length_append, rowC_len X S k]; simp [I5]; omega
theorem rowC_congr {X : Nat → In} {S S' : Nat → Value} : ∀ {k : Nat}, (∀ i, i < k → S i = S' i) → rowC X S k = rowC X S' k
  | 0, _ => rfl
  | k + 1, h => by rw [rowC_succ, rowC_succ, rowC_congr (fun i hi => h i (by omega)), h k (by omega)]
theorem rowC_get (X : Nat → In) (S : Nat → Value) : ∀ (k i q : Nat) (v : Value), i < k → (I5 (X i) (S i))[q]? = some v → (rowC X S k)[i * 5 + q]? = some v
  | k + 1, i, q, v, hi, hv => by
    have hq : q < 5 := by
      have := (List.getElem?_eq_some_iff.1 hv).1
      simpa [I5] using this
    rw [rowC_succ]
    by_cases e : i = k
    · subst e
      rw [List.getElem?_append_right (by rw [rowC_len]; omega), rowC_len, show i * 5 + q - i * 5 = q from by omega]
      exact hv
    · rw [List.getElem?_append_left (by rw [rowC_len]; omega)]
      exact rowC_get X S k i q v (by omega) hv
/-- a row of instructions that the call has made -/
def Made (w : World) (B : Nat) (v : Value) (m : Nat) (X : Nat → In) (S : Nat → Value) : Prop :=
  w.ownsRow B 104 5 v m (rowC X S m) ∧ ∀ i, i < m → w.ownsRow B 77 1 (S i) (X i).l.length ((X i).l.map U64)
theorem Made.fr {S0 : Nat → Prop} {w w' : World} {B : Nat} {v : Value} {m : Nat} {X : Nat → In} {S : Nat → Value} (h : Made w B v m X S) (hf : Fr S0 w w') (hne : ∀ k cs, S0 k → ¬ Blk w k 104 cs ∧ ¬ Blk w k 77 cs) : Made w' B v m X S := by
  refine ⟨own_fr h.1 hf (fun k hk hs => ?_), fun i hi => own_fr (h.2 i hi) hf (fun k hk hs => ?_)⟩
  · obtain ⟨cs, hc⟩ := own_ty h.1 hk; exact (hne k cs hs).1 hc
  · obtain ⟨cs, hc⟩ := own_ty (h.2 i hi) hk; exact (hne k cs hs).2 hc
theorem Made.kept {w w' : World} {B : Nat} {v : Value} {m : Nat} {X : Nat → In} {S : Nat → Value} (h : Made w B v m X S) (hb : Below w.heap.size w w') : Made w' B v m X S :=
  h.fr (Fr.of_below (S := fun _ => False) hb) (fun _ _ e => e.elim)
/-- one more -/
theorem Made.snoc {w1 w6 : World} {B : Nat} {v v6 : Value} {k : Nat} {X : Nat → In} {S : Nat → Value} {s : Value} (h : Made w1 B v k X S) (hs : w1.ownsRow B 77 1 s (X k).l.length ((X k).l.map U64))
    (hf : Fr (fun g => v.ownBlock = some g) w1 w6) (ho : w6.ownsRow B 104 5 v6 (k + 1) (rowC X S k ++ I5 (X k) s)) : Made w6 B v6 (k + 1) X (fun i => if i = k then s else S i) := by
  have hne : ∀ g, v.ownBlock = some g → ∀ (u : Value) (n : Nat) xs, w1.ownsRow B 77 1 u n xs → u.ownBlock ≠ some g := fun g hg u n xs hu e => by
    obtain ⟨cs, hc⟩ := own_ty h.1 hg
    obtain ⟨cs2, hc2⟩ := own_ty hu e
    exact hc.ne_ hc2 (by decide) rfl
  refine ⟨?_, fun i hi => ?_⟩
  · rw [rowC_succ, rowC_congr (S' := S) (fun i hi => if_neg (by omega)), if_pos rfl]
    exact ho
  · by_cases e : i = k
    · subst e
      show w6.ownsRow B 77 1 (if i = i then s else S i) _ _
      rw [if_pos rfl]
      exact own_fr hs hf (fun g hg q => hne g q _ _ _ hs hg)
    · show w6.ownsRow B 77 1 (if i = k then s else S i) _ _
      rw [if_neg e]
      exact own_fr (h.2 i (by omega)) hf (fun g hg q => hne g q _ _ _ (h.2 i (by omega)) hg)
/-- what List answers -/
def LsP (m : Nat) (X : Nat → In) (w : World) (e : Ending) (w' : World) : Prop := Below w.heap.size w w' ∧ ∃ v S, e = .returned v ∧ Made w' w.heap.size v m X S
theorem src1 (w : World) (cs : List Value) (t : Nat) : ∀ j u, cs[j]? = some u → (w.alloc (.cells cs.toArray t)).cell? ((⟨w.heap.size, 0, none⟩ : Addr).add j) = some u := by
  intro j u hu
  have e : (⟨w.heap.size, 0, none⟩ : Addr).add j = ⟨w.heap.size, j, none⟩ := by cases j <;> simp [Addr.add]
  rw [e, (Blk.new w t cs.toArray).cell j, List.getElem?_toArray]
  exact hu
theorem made_more {w w1 w6 : World} {v v6 : Value} {k : Nat} {X : Nat → In} {S : Nat → Value} {cd a bb al : Int} {l : List Int} {s : Value} (hx : X k = ⟨cd, a, bb, al, l⟩) (hb : Below w.heap.size w w1) (hm : Made w1 w.heap.size v k X S)
    (ho : w1.ownsRow w.heap.size 77 1 s l.length (l.map U64)) (h6 : w6.ownsRow w.heap.size 104 5 v6 (k + 1) (rowC X S k ++ [.int .i64 cd, .int .u64 a, .int .u64 bb, .int .i64 al, s]))
    (hg : (w1.alloc (.cells #[.int .i64 cd, .int .u64 a, .int .u64 bb, .int .i64 al, s] 104)).grownBy w6 v.ownBlock) :
    Below w.heap.size w w6 ∧ Made w6 w.heap.size v6 (k + 1) X (fun i => if i = k then s else S i) := by
  have hf6 : Fr (fun g => v.ownBlock = some g) w1 w6 := ((Fr.refl _ w1).alloc _).trans (Fr.grownV hg)
  refine ⟨hf6.below hb hb.size (fun q hq => (hm.1.lt q hq).1), hm.snoc (by rw [hx]; exact ho) hf6 (by rw [hx]; exact h6)⟩
theorem info104 : (Try.prog.info? 104).map (fun i => (i.zero, i.size, i.bytes)) = some (some (.agg #[.int .i64 0, .int .u64 0, .int .u64 0, .int .i64 0, .slice none 0 0]), 5, 56) := by kernel_rfl
set_option maxHeartbeats 4000000 in
set_option maxRecDepth 100000 in
theorem List_ok (A : Option Addr) (m cap : Nat) (X : Nat → In) (w : World) (hm : m ≤ 1000) (hl : ∀ i, i < m → (X i).l.length ≤ 1000) (hr : IRow w A m cap X) :
    Calls Try.prog 48 #[.slice A m cap] w (LsP m X w) := by
  obtain ⟨i0, hi, hz0, hz1, hz2⟩ := info_parts info104
  obtain ⟨hmc, hc, hX⟩ := hr
  unfold maxLen at hc
  have HX := Lib.hid hX
  have HL := Lib.hid hl
  clear hX hl
  go_enter Try.func48, Try.ntmps48
  go_wp2
  go_loopw [3, 4] (fun v3 v4 wr => ∃ (k : Nat) (S : Nat → Value), k ≤ m ∧ v4 = .int .i64 k ∧ Hid (Made wr w.heap.size v3 k X S) ∧ Hid (Below w.heap.size w wr)) (fun _ v4 _ => m - (intOf v4).toNat)
  case atStart => exact ⟨0, fun _ => undef, Nat.zero_le _, rfl, Lib.hid ⟨World.ownsRow_nil _ _ _ _, fun i hi => by omega⟩, Lib.hid (Below.refl _ _)⟩
  case round =>
    obtain ⟨k, S, hk, rfl, HM, HB⟩ := hrel
    by_cases hlt : k < m
    · obtain ⟨b, off, rfl, hb, hat⟩ := HX.out (by omega)
      obtain ⟨B, cp, c0, c1, c2, c3, c4, hs⟩ := hat k hlt
      have c0 := (HB.out.cell (p := ⟨b, off + k * 5, none⟩) hb).trans c0
      have c1 := (HB.out.cell (p := ⟨b, off + k * 5 + 1, none⟩) hb).trans c1
      have c2 := (HB.out.cell (p := ⟨b, off + k * 5 + 2, none⟩) hb).trans c2
      have c3 := (HB.out.cell (p := ⟨b, off + k * 5 + 3, none⟩) hb).trans c3
      have c4 := (HB.out.cell (p := ⟨b, off + k * 5 + 4, none⟩) hb).trans c4
      have hln := HL.out k hlt
      have HT : Hid (Calls Try.prog 84 #[.agg #[.int .i64 (X k).cd, .int .u64 (X k).a, .int .u64 (X k).b, .int .i64 (X k).al, .slice B (X k).l.length cp]] wr (ToP (X k) wr)) := Lib.hid (To_ok (X k) B cp wr (hs.below HB.out) (by omega))
      have HE := Lib.hid (Eq.refl (X k))
      clear hat hs
      generalize hx : X k = x at c0 c1 c2 c3 c4 HT hln
      have HXK := Lib.hid hx
      clear hx
      obtain ⟨cd, a, bb, al, l⟩ := x
      dsimp only at c0 c1 c2 c3 c4 HT hln
      go_wp2_with (first
        | (go_at_call 84; (with_reducible refine HT.out.mono ?_); rintro e w1 ⟨hb1, g, c, he, ho1⟩
           unfold I5 at he
           dsimp only at he ho1
           subst he
           have HB1 : Hid (Below w.heap.size w w1) := Lib.hid (HB.out.trans (hb1.mono HB.out.size))
           have HO1 := Lib.hid (own_base ho1 HB.out.size)
           have HM1 := Lib.hid (HM.out.kept hb1)
           clear hb1 ho1)
        | (at_builtin
           refine wpList_append_own _ rfl (.tmp 11) (.tmp 17) 65 rfl w.heap.size 104 i0 _ 5 56 Try.underlying65 hi hz0 hz1 hz2 rfl (by decide) _ k (rowC X S k) rfl (own_kept HM1.out.1 ((Below.refl _ _).alloc (Nat.le_refl _) _)) ⟨w1.heap.size, 0, none⟩ 1 1 [.int .i64 cd, .int .u64 a, .int .u64 bb, .int .i64 al, .slice (some ⟨g, 0, none⟩) l.length c] rfl rfl (src1 w1 _ 104) (by intro u hu; simp at hu; rcases hu with rfl | rfl | rfl | rfl | rfl <;> rfl) ?a2 ?a3 ?a4 ?_
           case a2 => unfold maxLen; omega
           case a3 => omega
           case a4 => have := HB1.out.size; simp; omega
           intro v6 w6 hown6 hg6 _
           have h6 := made_more HXK.out HB1.out HM1.out HO1.out hown6 hg6
           have HB6 := Lib.hid h6.1
           have HM6 := Lib.hid h6.2
           clear hown6 hg6 h6))
      go_roundw
      case rel => exact ⟨k + 1, _, by omega, by go_num, HM6, HB6⟩
      case measure => simp [intOf]; omega
    · obtain rfl : k = m := by omega
      go_wp2
      go_ret
      exact ⟨HB.out, _, S, rfl, HM.out⟩
end Go.Proofs.Ytackompihengfaa
