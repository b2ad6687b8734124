/-
  op.Numeric.
-/
import Derived.Test.YtalpkdnnclghaaaDoorTa
import Derived.Test.YtalpkdnnclghaaaDoorSc
import Derived.Laws.Rows
import Derived.Outline
namespace Go.Proofs.YtalpkdnnclghaaaDoor
open Go.RowKit Go.ChangeShapes Go.WideShapes Go.ChangeAt
set_option linter.unusedVariables false
set_option linter.unusedSimpArgs false
theorem ag107 : (P : Program) → P = Tryd.prog → (∀ W, (sizeOf 106).run P W = .ok 5 W) ∧ (∀ W, (isAgg 106).run P W = .ok true W) ∧ ∀ W, (underlying 107).run P W = .ok (.array 8 106) W := fun P h => by
  subst h
  exact ⟨fun W => Tryd.sizeOf106 W, fun W => Tryd.isAgg106 W, fun W => run_underlying Tryd.underlying107 W⟩
theorem ext_of {cs : Array Value} {k m : Nat} {l : List Value} (h : (cs.toList.drop (k * m)).take m = l) (hl : l.length = m) : cs.extract (k * m) (k * m + m) = l.toArray := by
  apply Array.ext_getElem?
  intro j
  have hlen : k * m + m ≤ cs.size ∨ m = 0 := by
    have := congrArg List.length h
    rw [hl, List.length_take, List.length_drop, Array.length_toList] at this
    omega
  have e2 : ((cs.toList.drop (k * m)).take m).toArray[j]? = ((cs.toList.drop (k * m)).take m)[j]? := List.getElem?_toArray ..
  rw [Array.getElem?_extract, ← h, e2, List.getElem?_take, List.getElem?_drop]
  by_cases hj : j < m
  · rw [if_pos hj, Array.getElem?_toList, if_pos (by omega)]
  · rw [if_neg hj, if_neg (by omega)]
theorem idx107 (cs : Array Value) (k : Nat) (hk : k < 8) (a b c d e : Int) (h : (cs.toList.drop (k * 5)).take 5 = [.int .i64 a, .int .i64 b, .int .i64 c, .int .i64 d, .int .i64 e]) (W : World) : (Instr.index 107 (.agg cs) (.int .i64 (k : Int))).run Tryd.prog W = .ok (.agg #[.int .i64 a, .int .i64 b, .int .i64 c, .int .i64 d, .int .i64 e]) W := by
  have he := ext_of h rfl
  generalize hP : Tryd.prog = P
  obtain ⟨h1, h2, h3⟩ := ag107 P hP.symm
  have h4 : (k : Int) < 8 := by omega
  simp [Instr.index, asIntOf, h3, part, h1, h2, h4, Result.andThen, he]
  intro h; omega
/-- what layer 5 does for a code: the row that has it -/
def NumAt (c : Int) (r : List Int) : Prop := r ∈ numL ∧ r.getD 0 0 ≤ c ∧ c ≤ r.getD 1 0
def NuPost (c : Int) (w : World) (e : Ending) (w' : World) : Prop :=
  (∃ r, NumAt c r ∧ e = .returned (.tuple #[.int .i64 (r.getD 2 0), .int .i64 (r.getD 3 0 + c - r.getD 0 0), .int .i64 (r.getD 4 0), .bool true]) ∧ Below w.heap.size w w') ∨
  ((∀ r, ¬ NumAt c r) ∧ e = .returned (.tuple #[.int .i64 0, .int .i64 0, .int .i64 0, .bool false]) ∧ Below w.heap.size w w')
theorem num_small {r : List Int} (h : r ∈ numL) : r.length = 5 ∧ 69 ≤ r.getD 0 0 ∧ r.getD 1 0 ≤ 138 ∧ 0 ≤ r.getD 3 0 ∧ r.getD 3 0 ≤ 3 := by
  have hB : (numL.all fun r => decide (r.length = 5) && decide (69 ≤ r.getD 0 0) && decide (r.getD 1 0 ≤ 138) && decide (0 ≤ r.getD 3 0) && decide (r.getD 3 0 ≤ 3)) = true := by kernel_rfl
  have := List.all_eq_true.1 hB r h
  simpa [and_assoc] using this
theorem five {r : List Int} (h : r.length = 5) : r.map (fun z => Value.int .i64 z) = [.int .i64 (r.getD 0 0), .int .i64 (r.getD 1 0), .int .i64 (r.getD 2 0), .int .i64 (r.getD 3 0), .int .i64 (r.getD 4 0)] := by
  match r, h with
  | [a, b, c, d, e], _ => rfl
set_option maxHeartbeats 8000000 in
set_option maxRecDepth 100000 in
theorem Numeric_any (c : Int) (hb : -9223372036854775808 ≤ c ∧ c ≤ 9223372036854775807) (w : World) (hN : Tab w 2 8 5 numL) : Calls Tryd.prog 43 #[.int .i64 c] w (NuPost c w) := by
  obtain ⟨cs, t, fr, hh, hsz, hrow⟩ := hN
  have HH := Lib.hid hh
  have HS : Hid ((Tryd.prog.info? 107).map (·.size) = some cs.size) := Lib.hid (by rw [hsz]; kernel_rfl)
  have HR := Lib.hid hrow
  have HL : Hid (numL.length = 8) := Lib.hid rfl
  have IX := Lib.hid (idx107 cs)
  clear hh hsz hrow
  go_enter Tryd.func43, Tryd.ntmps43
  go_wp2_with (with_reducible refine wpList_load_row rfl 107 (.global 2) rfl 2 rfl t cs fr (.array 8 106) HH.out Tryd.underlying107 rfl HS.out ?_)
  go_loopw [9] (fun v9 wr => ∃ k : Nat, k ≤ 8 ∧ v9 = .int .i64 k ∧ Hid (∀ (j : Nat) (r : List Int), j < k → numL[j]? = some r → ¬ NumAt c r) ∧ Hid (Below w.heap.size w wr)) (fun v9 _ => 8 - (intOf v9).toNat)
  case atStart => exact ⟨0, by omega, rfl, Lib.hid (fun j r h => by omega), Lib.hid (Below.refl _ _)⟩
  case round =>
    obtain ⟨k, hk, rfl, HNo, HB⟩ := hrel
    by_cases hlt : k < 8
    · obtain ⟨r, HRr⟩ : ∃ r, Hid (numL[k]? = some r) := ⟨_, Lib.hid (List.getElem?_eq_getElem (by rw [HL.out]; exact hlt))⟩
      have HM := Lib.hid (List.mem_of_getElem? HRr.out)
      have hsm := num_small HM.out
      have h5 := HR.out k r HRr.out
      rw [five hsm.1] at h5
      have ix := IX.out k hlt _ _ _ _ _ h5
      have HNA : Hid (r.getD 0 0 ≤ c → c ≤ r.getD 1 0 → NumAt c r) := Lib.hid (fun h1 h2 => ⟨HM.out, h1, h2⟩)
      have HNN : Hid ((r.getD 0 0 ≤ c → c ≤ r.getD 1 0 → False) → ∀ (j : Nat) (r : List Int), j < k + 1 → numL[j]? = some r → ¬ NumAt c r) := Lib.hid (fun h j r' hj hr' ha => by
        by_cases e : j = k
        · subst e
          obtain rfl : r = r' := Option.some.inj (HRr.out.symm.trans hr')
          exact h ha.2.1 ha.2.2
        · exact HNo.out j r' (by omega) hr' ha)
      have HFin : Hid (∀ w', Below w.heap.size w w' → NumAt c r → NuPost c w (.returned (.tuple #[.int .i64 (r.getD 2 0), .int .i64 (r.getD 3 0 + c - r.getD 0 0), .int .i64 (r.getD 4 0), .bool true])) w') := Lib.hid (fun w' hb ha => .inl ⟨r, ha, rfl, hb⟩)
      obtain ⟨_, s1, s2, s3, s4⟩ := hsm
      clear h5
      have hdk : decide ((k : Int) < 8) = true := by simp; omega
      generalize r.getD 0 0 = a at ix HNA HNN HFin s1
      generalize r.getD 1 0 = b at ix HNA HNN HFin s2
      generalize r.getD 2 0 = g at ix HFin
      generalize r.getD 3 0 = n at ix HFin s3 s4
      generalize r.getD 4 0 = bt at ix HFin
      have HBa : Hid (Below w.heap.size w (wr.alloc (.cells #[.int .i64 a, .int .i64 b, .int .i64 g, .int .i64 n, .int .i64 bt] 106))) := Lib.hid (HB.out.alloc HB.out.size _)
      by_cases h1 : a ≤ c
      · by_cases h2 : c ≤ b
        · have HNu := Lib.hid (HNA.out h1 h2)
          go_wp2_with fail
          go_quiet (fail)
          go_wp2
          refine bodyPost_ret (v := .tuple #[.int .i64 g, .int .i64 (n + c - a), .int .i64 bt, .bool true]) (by simp [results, Tryd.results43]) rfl ?_
          exact HFin.out _ (below_drewN HBa.out _) HNu.out
        · have HN2 := Lib.hid (HNN.out (fun _ h => h2 h))
          go_wp2_with fail
          go_roundw
          case rel => exact ⟨k + 1, by omega, by go_num, HN2, HBa⟩
          case measure => simp [intOf]; omega
      · have HN2 := Lib.hid (HNN.out (fun h _ => h1 h))
        go_wp2_with fail
        go_roundw
        case rel => exact ⟨k + 1, by omega, by go_num, HN2, HBa⟩
        case measure => simp [intOf]; omega
    · obtain rfl : k = 8 := by omega
      have HNone : Hid (∀ r, ¬ NumAt c r) := Lib.hid (fun r hr => by
        obtain ⟨j, hj⟩ := List.getElem?_of_mem hr.1
        exact HNo.out j r (by rw [← HL.out]; exact (List.getElem?_eq_some_iff.1 hj).1) hj hr)
      go_wp2_with fail
      refine bodyPost_ret (v := .tuple #[.int .i64 0, .int .i64 0, .int .i64 0, .bool false]) (by simp [results, Tryd.results43]) rfl ?_
      exact .inr ⟨HNone.out, rfl, HB.out⟩
end Go.Proofs.YtalpkdnnclghaaaDoor
