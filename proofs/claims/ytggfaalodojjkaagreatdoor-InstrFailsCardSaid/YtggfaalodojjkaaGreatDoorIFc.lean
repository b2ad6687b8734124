/-
  The law's To: an instruction copied.
-/
import Derived.Test.YtggfaalodojjkaaGreatDoorIFb
import Derived.Deep.RegionHeld3
import Derived.Deep.Upon
namespace Go.Proofs.YtggfaalodojjkaaGreatDoor
open Go.RowKit
set_option linter.unusedVariables false
set_option linter.unusedSimpArgs false
/-- an instruction as told -/
structure In where
  cd : Int
  a : Int
  b : Int
  al : Int
  l : List Int
def U64 (z : Int) : Value := .int .u64 z
def I5 (x : In) (s : Value) : List Value := [.int .i64 x.cd, .int .u64 x.a, .int .u64 x.b, .int .i64 x.al, s]
/-- a slice of words that can be read -/
def Sl (w : World) (B : Option Addr) (n cp : Nat) (l : List Int) : Prop :=
  l.length = n ∧ n ≤ cp ∧ cp ≤ maxLen ∧ (0 < n → ∃ g o, B = some ⟨g, o, none⟩ ∧ g < w.heap.size ∧ ∀ i, i < n → w.cell? ⟨g, o + i, none⟩ = some (U64 (l.getD i 0)))
theorem Sl.below {w w' : World} {B : Option Addr} {n cp : Nat} {l : List Int} (h : Sl w B n cp l) (hb : Below w.heap.size w w') : Sl w' B n cp l := by
  obtain ⟨h1, h2, h3, h4⟩ := h
  refine ⟨h1, h2, h3, fun h0 => ?_⟩
  obtain ⟨g, o, e, hg, hc⟩ := h4 h0
  exact ⟨g, o, e, Nat.lt_of_lt_of_le hg hb.size, fun i hi => (hb.cell (p := ⟨g, o + i, none⟩) hg).trans (hc i hi)⟩
theorem own_empty (w : World) (E size B : Nat) (hB : B ≤ w.heap.size) : (w.alloc (.cells #[] E)).ownsRow B E size (.slice (some ⟨w.heap.size, 0, none⟩) 0 0) 0 [] :=
  ⟨by simp, .inr ⟨w.heap.size, 0, #[], rfl, hB, heap_alloc_new w _, Nat.le_refl _, Nat.zero_le _, by simp, by simp⟩⟩
theorem info22 : (Tryz.prog.info? 22).map (fun i => (i.zero, i.size, i.bytes)) = some (some (.int .u64 0), 1, 8) := by kernel_rfl
/-- a row of words copied to an empty one -/
theorem cpy (B : Nat) (w : World) (hB : B ≤ w.heap.size) (A : Option Addr) (n c : Nat) (l : List Int) (h : Sl w A n c l) (hn : n ≤ 200000) :
    ∃ g cap w3, (∀ ty, (Builtin.append_ #[23, 23] ty #[.slice (some ⟨w.heap.size, 0, none⟩) 0 0, .slice A n c]).run Tryz.prog (w.alloc (.cells #[] 22)) = .ok (.slice (some ⟨g, 0, none⟩) n cap) w3) ∧
      w3.ownsRow B 22 1 (.slice (some ⟨g, 0, none⟩) n cap) n (l.map U64) ∧ Fr (fun _ => False) w w3 := by
  obtain ⟨i0, hi, hz0, hz1, hz2⟩ := info_parts info22
  obtain ⟨h1, h2, h3, h4⟩ := h
  subst h1
  have f0 : Fr (fun _ => False) w (w.alloc (.cells #[] 22)) := (Fr.refl _ w).alloc _
  have o0 := own_empty w 22 1 B hB
  rcases Nat.eq_zero_or_pos l.length with h0 | h0
  · have hl : l = [] := List.eq_nil_of_length_eq_zero h0
    subst hl
    refine ⟨w.heap.size, 0, _, fun ty => ?_, o0, f0⟩
    cases A with
    | none => exact run_append_nothing _ 23 23 ty 22 i0 Tryz.underlying23 hi _ 0 0 (Nat.le_refl _) _ (Src.ofNil _ Tryz.underlying23 c)
    | some a => exact run_append_nothing _ 23 23 ty 22 i0 Tryz.underlying23 hi _ 0 0 (Nat.le_refl _) _ (Src.ofSlice _ Tryz.underlying23 a 0 c [] (by simp) (by simp) (by simp))
  · obtain ⟨g, o, rfl, hg, hc⟩ := h4 h0
    have hr : ∀ ty, ∃ v' w', (Builtin.append_ #[23, 23] ty #[.slice (some ⟨w.heap.size, 0, none⟩) 0 0, .slice (some ⟨g, o, none⟩) l.length c]).run Tryz.prog (w.alloc (.cells #[] 22)) = .ok v' w' ∧ w'.ownsRow B 22 1 v' (0 + l.length) ([] ++ l.map U64) ∧ (w.alloc (.cells #[] 22)).grownBy w' (Value.slice (some ⟨w.heap.size, 0, none⟩) 0 0).ownBlock := fun ty => by
      obtain ⟨v', w', q1, q2, q3, _⟩ := run_append_own_at (P := Tryz.prog) (w.alloc (.cells #[] 22)) B 23 ty 22 i0 _ 1 8 Tryz.underlying23 hi hz0 hz1 hz2 rfl (by decide) _ 0 [] o0 ⟨g, o, none⟩ l.length c (l.map U64) (by simp) (fun j u hu => by
        have hj : j < l.length := by have := (List.getElem?_eq_some_iff.1 hu).1; simpa using this
        have e : (⟨g, o, none⟩ : Addr).add j = ⟨g, o + j, none⟩ := by cases j <;> simp [Addr.add]
        rw [e, (((Below.refl w.heap.size w).alloc (Nat.le_refl _) _).cell (p := ⟨g, o + j, none⟩) hg), hc j hj]
        rw [List.getElem?_map, List.getElem?_eq_getElem hj] at hu
        rw [List.getD_eq_getElem?_getD, List.getElem?_eq_getElem hj]
        exact hu) (fun u hu => by
        rw [List.mem_map] at hu
        obtain ⟨_, _, rfl⟩ := hu
        rfl) (by unfold maxLen; omega) (by omega) (by simp; omega)
      exact ⟨v', w', q1, q2, q3⟩
    obtain ⟨v', w', q1, q2, q3⟩ := hr 0
    rcases q2.2 with ⟨_, h9⟩ | ⟨g2, cap, cur, e, _⟩
    · omega
    · subst e
      rw [Nat.zero_add] at q1 q2
      refine ⟨g2, cap, w', fun ty => q1, q2, f0.trans_new (Fr.grownV q3) (fun i hi => ?_)⟩
      right
      simp only [Value.ownBlock, Option.some.injEq] at hi
      omega
/-- what To answers -/
def ToP (x : In) (w : World) (e : Ending) (w' : World) : Prop := Below w.heap.size w w' ∧ ∃ g c, e = .returned (.agg (I5 x (.slice (some ⟨g, 0, none⟩) x.l.length c)).toArray) ∧ w'.ownsRow w.heap.size 22 1 (.slice (some ⟨g, 0, none⟩) x.l.length c) x.l.length (x.l.map U64)
theorem step_store_row {P : Program} {ops : Array Oper} {o : Oper} {a : Act} {w : World} {K : Act → World → Prop} {Q : Exit → Act → World → Prop} {E : Prop} (hgd : o.guard = none) (ty : TypeId) (x y : Operand) (ho : o.op = .store ty x y)
    (g : Nat) (cells : Array Value) (hx : a.eval x = .pointer (some ⟨g, 0, none⟩)) (hy : a.eval y = .agg cells) (t : TypeId) (old : Array Value) (hg : Blk w g t old) (hi : (P.info? ty).map (·.size) = some cells.size) (hold : old.size = cells.size) (h1 : cells.all (·.oneCell') = true)
    (h : K (a.put o.dst undef) (w.setRow g cells)) : if Region.wanted o (yielded ops a.tmps) = true then Oper.wp P o a w K Q else E := by
  rw [if_pos (by simp [Region.wanted, hgd])]
  exact wp_store_row ty x y ho g cells hx hy t old hg hi hold h1 h
theorem fr_setRow (w : World) (g : Nat) (cs : Array Value) : Fr (fun k => k = g) w (w.setRow g cs) := ⟨rfl, rfl, rfl, by simp [World.setRow], fun i _ hs => setRow_other w g i cs (fun e => hs (by first | exact e | exact e.symm))⟩
theorem results9 : Tryz.f9.results = #[.cell 2 30] := by kernel_rfl
theorem info41b : (Tryz.prog.info? 30).map (·.size) = some 5 := by kernel_rfl
set_option maxHeartbeats 4000000 in
set_option maxRecDepth 100000 in
theorem To_ok (x : In) (A : Option Addr) (c : Nat) (w : World) (h : Sl w A x.l.length c x.l) (hn : x.l.length ≤ 200000) :
    Calls Tryz.prog 9 #[.agg (I5 x (.slice A x.l.length c)).toArray] w (ToP x w) := by
  obtain ⟨cd, a, b, al, l⟩ := x
  unfold I5
  dsimp only at h hn ⊢
  have hb0 : Below w.heap.size w (w.alloc (.cells #[.int .i64 cd, .int .u64 a, .int .u64 b, .int .i64 al, .slice A l.length c] 25)) := (Below.refl _ _).alloc (Nat.le_refl _) _
  have hP := Blk.new w 25 #[.int .i64 cd, .int .u64 a, .int .u64 b, .int .i64 al, .slice A l.length c]
  obtain ⟨W0, hW0⟩ : ∃ W, W = (w.alloc (.cells #[.int .i64 cd, .int .u64 a, .int .u64 b, .int .i64 al, .slice A l.length c] 25)).alloc (.cells #[.int .i64 0, .int .u64 0, .int .u64 0, .int .i64 0, .slice none 0 0] 30) := ⟨_, rfl⟩
  have hb : Below w.heap.size w W0 := by rw [hW0]; exact hb0.alloc hb0.size _
  have hP0 : Blk W0 w.heap.size 25 #[.int .i64 cd, .int .u64 a, .int .u64 b, .int .i64 al, .slice A l.length c] := by rw [hW0]; exact hP.alloc _
  have hR0 : Blk W0 (w.heap.size + 1) 30 #[.int .i64 0, .int .u64 0, .int .u64 0, .int .i64 0, .slice none 0 0] := by
    rw [hW0]
    have := Blk.new (w.alloc (.cells #[.int .i64 cd, .int .u64 a, .int .u64 b, .int .i64 al, .slice A l.length c] 25)) 30 #[.int .i64 0, .int .u64 0, .int .u64 0, .int .i64 0, .slice none 0 0]
    rw [World.size_alloc] at this
    exact this
  obtain ⟨g, cap, w3, hap, ho, hf⟩ := cpy w.heap.size W0.drew hb.size A l.length c l ((h.below hb).below ⟨rfl, rfl, rfl, Nat.le_refl _, fun _ _ => rfl⟩) hn
  have hP1 : Blk W0.drew w.heap.size 25 _ := hP0
  have hR1 : Blk W0.drew (w.heap.size + 1) 30 _ := hR0
  have hP2 : Blk (W0.drew.alloc (.cells #[] 22)) w.heap.size 25 _ := hP1.alloc _
  have hP3 := hP1.fr hf (fun h => h)
  have hR3 := hR1.fr hf (fun h => h)
  have hb3 : Below w.heap.size w w3 := hf.below (below_drew hb) hb.size (fun k hk => hk.elim)
  have HAP := Lib.hid hap
  have HO := Lib.hid ho
  have HB := Lib.hid hb3
  have HR := Lib.hid hR3
  have k0 : (fun W : World => W.cell? ⟨w.heap.size, 0, none⟩ = some (.int .i64 cd) ∧ W.cell? ⟨w.heap.size, 1, none⟩ = some (.int .u64 a) ∧ W.cell? ⟨w.heap.size, 2, none⟩ = some (.int .u64 b) ∧ W.cell? ⟨w.heap.size, 3, none⟩ = some (.int .i64 al) ∧ W.cell? ⟨w.heap.size, 4, none⟩ = some (.slice A l.length c)) W0.drew := ⟨hP1.cell 0, hP1.cell 1, hP1.cell 2, hP1.cell 3, hP1.cell 4⟩
  have k2 : (fun W : World => W.cell? ⟨w.heap.size, 0, none⟩ = some (.int .i64 cd) ∧ W.cell? ⟨w.heap.size, 1, none⟩ = some (.int .u64 a) ∧ W.cell? ⟨w.heap.size, 2, none⟩ = some (.int .u64 b) ∧ W.cell? ⟨w.heap.size, 3, none⟩ = some (.int .i64 al) ∧ W.cell? ⟨w.heap.size, 4, none⟩ = some (.slice A l.length c)) (W0.drew.alloc (.cells #[] 22)) := ⟨hP2.cell 0, hP2.cell 1, hP2.cell 2, hP2.cell 3, hP2.cell 4⟩
  have k3 : (fun W : World => W.cell? ⟨w.heap.size, 0, none⟩ = some (.int .i64 cd) ∧ W.cell? ⟨w.heap.size, 1, none⟩ = some (.int .u64 a) ∧ W.cell? ⟨w.heap.size, 2, none⟩ = some (.int .u64 b) ∧ W.cell? ⟨w.heap.size, 3, none⟩ = some (.int .i64 al) ∧ W.cell? ⟨w.heap.size, 4, none⟩ = some (.slice A l.length c)) w3 := ⟨hP3.cell 0, hP3.cell 1, hP3.cell 2, hP3.cell 3, hP3.cell 4⟩
  have KE := Lib.hid k0
  have KF := Lib.hid k2
  have KG := Lib.hid k3
  have k4 : (fun W : World => W.cell? ⟨w.heap.size, 0, none⟩ = some (.int .i64 cd) ∧ W.cell? ⟨w.heap.size, 1, none⟩ = some (.int .u64 a) ∧ W.cell? ⟨w.heap.size, 2, none⟩ = some (.int .u64 b) ∧ W.cell? ⟨w.heap.size, 3, none⟩ = some (.int .i64 al) ∧ W.cell? ⟨w.heap.size, 4, none⟩ = some (.slice A l.length c)) (w3.setRow (w.heap.size + 1) #[.int .i64 cd, .int .u64 a, .int .u64 b, .int .i64 al, .slice (some ⟨g, 0, none⟩) l.length cap]) := by
    have hP4 : Blk (w3.setRow (w.heap.size + 1) #[.int .i64 cd, .int .u64 a, .int .u64 b, .int .i64 al, .slice (some ⟨g, 0, none⟩) l.length cap]) w.heap.size 25 _ := (setRow_other w3 (w.heap.size + 1) w.heap.size _ (by omega)).trans hP3
    exact ⟨hP4.cell 0, hP4.cell 1, hP4.cell 2, hP4.cell 3, hP4.cell 4⟩
  have KH := Lib.hid k4
  clear k4
  have HW0 := Lib.hid hW0
  clear hap ho hb hb3 hb0 hP hP0 hR0 hP1 hR1 hP2 hP3 hR3 hf h hn k0 k2 k3 hW0
  go_enter Tryz.func9, Tryz.ntmps9
  go_upto_region 1 with fail
  rw [← HW0.out]
  refine wp_region_held_drew (S := (fun W : World => W.cell? ⟨w.heap.size, 0, none⟩ = some (.int .i64 cd) ∧ W.cell? ⟨w.heap.size, 1, none⟩ = some (.int .u64 a) ∧ W.cell? ⟨w.heap.size, 2, none⟩ = some (.int .u64 b) ∧ W.cell? ⟨w.heap.size, 3, none⟩ = some (.int .i64 al) ∧ W.cell? ⟨w.heap.size, 4, none⟩ = some (.slice A l.length c))) (by kernel_rfl) KE.out (fun hHeld => ?_)
  refine wpAnyH_take (i := 0) (oi := ?oi_1) (v := ?_) ?hi_1 (by kernel_rfl) ?hf_1 (by kernel_rfl) ?hQ_1 ?hy_1 (by assumption) ?_
  case hi_1 => simp only [List.getElem?_toArray, List.getElem?_cons_zero, List.getElem?_cons_succ]; rfl
  case hf_1 => kernel_rfl
  case hQ_1 => exact fun _ _ _ h => h
  case hy_1 =>
    refine Or.inl ⟨by rfl, ?_⟩
    intro W hSw
    obtain ⟨q0, q1, q2, q3, q4⟩ := hSw
    go_simp
    try with_reducible rfl
  try simp only [Act.put, List.setIfInBounds_toArray, List.set_cons_zero, List.set_cons_succ]
  refine wpAnyH_take (i := 1) (oi := ?oi_2) (v := ?_) ?hi_2 (by kernel_rfl) ?hf_2 (by kernel_rfl) ?hQ_2 ?hy_2 (by assumption) ?_
  case hi_2 => simp only [List.getElem?_toArray, List.getElem?_cons_zero, List.getElem?_cons_succ]; rfl
  case hf_2 => kernel_rfl
  case hQ_2 => exact fun _ _ _ h => h
  case hy_2 =>
    refine Or.inl ⟨by rfl, ?_⟩
    intro W hSw
    obtain ⟨q0, q1, q2, q3, q4⟩ := hSw
    go_simp
    try with_reducible rfl
  try simp only [Act.put, List.setIfInBounds_toArray, List.set_cons_zero, List.set_cons_succ]
  refine wpAnyH_take (i := 2) (oi := ?oi_3) (v := ?_) ?hi_3 (by kernel_rfl) ?hf_3 (by kernel_rfl) ?hQ_3 ?hy_3 (by assumption) ?_
  case hi_3 => simp only [List.getElem?_toArray, List.getElem?_cons_zero, List.getElem?_cons_succ]; rfl
  case hf_3 => kernel_rfl
  case hQ_3 => exact fun _ _ _ h => h
  case hy_3 =>
    refine Or.inl ⟨by rfl, ?_⟩
    intro W hSw
    obtain ⟨q0, q1, q2, q3, q4⟩ := hSw
    go_simp
    try with_reducible rfl
  try simp only [Act.put, List.setIfInBounds_toArray, List.set_cons_zero, List.set_cons_succ]
  refine wpAnyH_take (i := 3) (oi := ?oi_4) (v := ?_) ?hi_4 (by kernel_rfl) ?hf_4 (by kernel_rfl) ?hQ_4 ?hy_4 (by assumption) ?_
  case hi_4 => simp only [List.getElem?_toArray, List.getElem?_cons_zero, List.getElem?_cons_succ]; rfl
  case hf_4 => kernel_rfl
  case hQ_4 => exact fun _ _ _ h => h
  case hy_4 =>
    refine Or.inl ⟨by rfl, ?_⟩
    intro W hSw
    obtain ⟨q0, q1, q2, q3, q4⟩ := hSw
    go_simp
    try with_reducible rfl
  try simp only [Act.put, List.setIfInBounds_toArray, List.set_cons_zero, List.set_cons_succ]
  refine wpAnyH_take (i := 4) (oi := ?oi_5) (v := ?_) ?hi_5 (by kernel_rfl) ?hf_5 (by kernel_rfl) ?hQ_5 ?hy_5 (by assumption) ?_
  case hi_5 => simp only [List.getElem?_toArray, List.getElem?_cons_zero, List.getElem?_cons_succ]; rfl
  case hf_5 => kernel_rfl
  case hQ_5 => exact fun _ _ _ h => h
  case hy_5 =>
    refine Or.inl ⟨by rfl, ?_⟩
    intro W hSw
    obtain ⟨q0, q1, q2, q3, q4⟩ := hSw
    go_simp
    try with_reducible rfl
  try simp only [Act.put, List.setIfInBounds_toArray, List.set_cons_zero, List.set_cons_succ]
  refine wpAnyH_take (i := 5) (oi := ?oi_6) (v := ?_) ?hi_6 (by kernel_rfl) ?hf_6 (by kernel_rfl) ?hQ_6 ?hy_6 (by assumption) ?_
  case hi_6 => simp only [List.getElem?_toArray, List.getElem?_cons_zero, List.getElem?_cons_succ]; rfl
  case hf_6 => kernel_rfl
  case hQ_6 => exact fun _ _ _ h => h
  case hy_6 =>
    refine Or.inl ⟨by rfl, ?_⟩
    intro W hSw
    obtain ⟨q0, q1, q2, q3, q4⟩ := hSw
    go_simp
    try with_reducible rfl
  try simp only [Act.put, List.setIfInBounds_toArray, List.set_cons_zero, List.set_cons_succ]
  refine wpAnyH_take (i := 6) (oi := ?oi_7) (v := ?_) ?hi_7 (by kernel_rfl) ?hf_7 (by kernel_rfl) ?hQ_7 ?hy_7 (by assumption) ?_
  case hi_7 => simp only [List.getElem?_toArray, List.getElem?_cons_zero, List.getElem?_cons_succ]; rfl
  case hf_7 => kernel_rfl
  case hQ_7 => exact fun _ _ _ h => h
  case hy_7 =>
    refine Or.inl ⟨by rfl, ?_⟩
    intro W hSw
    obtain ⟨q0, q1, q2, q3, q4⟩ := hSw
    go_simp
    try with_reducible rfl
  try simp only [Act.put, List.setIfInBounds_toArray, List.set_cons_zero, List.set_cons_succ]
  refine wpAnyH_take (i := 7) (oi := ?oi_8) (v := ?_) ?hi_8 (by kernel_rfl) ?hf_8 (by kernel_rfl) ?hQ_8 ?hy_8 (by assumption) ?_
  case hi_8 => simp only [List.getElem?_toArray, List.getElem?_cons_zero, List.getElem?_cons_succ]; rfl
  case hf_8 => kernel_rfl
  case hQ_8 => exact fun _ _ _ h => h
  case hy_8 =>
    refine Or.inl ⟨by rfl, ?_⟩
    intro W hSw
    obtain ⟨q0, q1, q2, q3, q4⟩ := hSw
    go_simp
    try with_reducible rfl
  try simp only [Act.put, List.setIfInBounds_toArray, List.set_cons_zero, List.set_cons_succ]
  refine wpAnyH_take (i := 9) (oi := ?oi_9) (v := ?_) ?hi_9 (by kernel_rfl) ?hf_9 (by kernel_rfl) ?hQ_9 ?hy_9 (by assumption) ?_
  case hi_9 => simp only [List.getElem?_toArray, List.getElem?_cons_zero, List.getElem?_cons_succ]; rfl
  case hf_9 => kernel_rfl
  case hQ_9 => exact fun _ _ _ h => h
  case hy_9 =>
    refine Or.inl ⟨by rfl, ?_⟩
    intro W hSw
    obtain ⟨q0, q1, q2, q3, q4⟩ := hSw
    go_simp
    try with_reducible rfl
  try simp only [Act.put, List.setIfInBounds_toArray, List.set_cons_zero, List.set_cons_succ]
  refine wpAnyH_take (i := 10) (oi := ?oi_10) (v := ?_) ?hi_10 (by kernel_rfl) ?hf_10 (by kernel_rfl) ?hQ_10 ?hy_10 (by assumption) ?_
  case hi_10 => simp only [List.getElem?_toArray, List.getElem?_cons_zero, List.getElem?_cons_succ]; rfl
  case hf_10 => kernel_rfl
  case hQ_10 => exact fun _ _ _ h => h
  case hy_10 =>
    refine Or.inl ⟨by rfl, ?_⟩
    intro W hSw
    obtain ⟨q0, q1, q2, q3, q4⟩ := hSw
    go_simp
    try with_reducible rfl
  try simp only [Act.put, List.setIfInBounds_toArray, List.set_cons_zero, List.set_cons_succ]
  refine wpAnyH_ready (rs := [8]) (by kernel_rfl) (by simp) ?_
  refine AllReadyH.cons (o := ?oi_11) ?hi_11 (fun K hK => ?_) AllReadyH.nil
  case hi_11 => simp only [List.getElem?_toArray, List.getElem?_cons_zero, List.getElem?_cons_succ]; rfl
  go_simp
  refine hK.out _ _ KF.out (fun hHeld => ?_)
  clear hK K
  try simp only [Act.put, List.setIfInBounds_toArray, List.set_cons_zero, List.set_cons_succ]
  refine wpAnyH_ready (rs := [11]) (by kernel_rfl) (by simp) ?_
  refine AllReadyH.cons (o := ?oi_12) ?hi_12 (fun K hK => ?_) AllReadyH.nil
  case hi_12 => simp only [List.getElem?_toArray, List.getElem?_cons_zero, List.getElem?_cons_succ]; rfl
  refine step_append_run rfl (.tmp 11) (.tmp 13) 23 rfl (.slice (some ⟨W0.drew.heap.size, 0, none⟩) 0 0) (.slice A l.length c) (.slice (some ⟨g, 0, none⟩) l.length cap) w3 rfl rfl HAP ?_
  refine hK.out _ _ KG.out (fun hHeld => ?_)
  clear hK K
  try simp only [Act.put, List.setIfInBounds_toArray, List.set_cons_zero, List.set_cons_succ]
  refine wpAnyH_take (i := 12) (oi := ?oi_13) (v := ?_) ?hi_13 (by kernel_rfl) ?hf_13 (by kernel_rfl) ?hQ_13 ?hy_13 (by assumption) ?_
  case hi_13 => simp only [List.getElem?_toArray, List.getElem?_cons_zero, List.getElem?_cons_succ]; rfl
  case hf_13 => kernel_rfl
  case hQ_13 => exact fun _ _ _ h => h
  case hy_13 =>
    refine Or.inl ⟨by rfl, ?_⟩
    intro W hSw
    obtain ⟨q0, q1, q2, q3, q4⟩ := hSw
    go_simp
    try with_reducible rfl
  try simp only [Act.put, List.setIfInBounds_toArray, List.set_cons_zero, List.set_cons_succ]
  refine wpAnyH_ready (rs := [13]) (by kernel_rfl) (by simp) ?_
  refine AllReadyH.cons (o := ?oi_14) ?hi_14 (fun K hK => ?_) AllReadyH.nil
  case hi_14 => simp only [List.getElem?_toArray, List.getElem?_cons_zero, List.getElem?_cons_succ]; rfl
  refine step_store_row rfl 30 (.tmp 2) (.tmp 15) rfl (w.heap.size + 1) #[.int .i64 cd, .int .u64 a, .int .u64 b, .int .i64 al, .slice (some ⟨g, 0, none⟩) l.length cap] rfl rfl 30 _ HR.out (by kernel_rfl) rfl (by simp [Value.oneCell']) ?_
  refine hK.out _ _ KH.out (fun hHeld => ?_)
  clear hK K
  try simp only [Act.put, List.setIfInBounds_toArray, List.set_cons_zero, List.set_cons_succ]
  refine wpAnyH_done (by kernel_rfl) ?_ _
  clear hHeld
  go_wp2
  refine bodyPost_ret (v := .agg #[.int .i64 cd, .int .u64 a, .int .u64 b, .int .i64 al, .slice (some ⟨g, 0, none⟩) l.length cap]) (results_cell_row results9 _ _ (w.heap.size + 1) 30 _ (0, 0) _ rfl (setRow_heap w3 (w.heap.size + 1) _ _ 30 (0, 0) HR.out) Tryz.underlying30 rfl (by kernel_rfl)) rfl ?_
  refine ⟨below_setRow HB.out (by omega) _, g, cap, rfl, own_fr HO.out (fr_setRow w3 (w.heap.size + 1) _) (fun k hk e => ?_)⟩
  obtain ⟨cs, hcs⟩ := own_ty HO.out hk
  exact hcs.ne_ HR.out (by decide) e
end Go.Proofs.YtggfaalodojjkaaGreatDoor
