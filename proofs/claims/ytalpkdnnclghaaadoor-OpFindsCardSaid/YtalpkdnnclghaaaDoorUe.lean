/-
  op.Width, op.Foreign.
-/
import Derived.Test.YtalpkdnnclghaaaDoorUa
import Derived.Laws.Rows
import Derived.Outline
namespace Go.Proofs.YtalpkdnnclghaaaDoor
open Go.RowKit Go.ChangeShapes Go.WideShapes Go.ChangeAt
set_option linter.unusedVariables false
set_option linter.unusedSimpArgs false
def WdPost (c : Int) (w : World) (e : Ending) (w' : World) : Prop := e = .returned (.tuple #[.int .i64 (widthL c), .bool (widthL c != 0)]) ∧ Below w.heap.size w w'
set_option maxHeartbeats 8000000 in
set_option maxRecDepth 100000 in
theorem Width_any (c : Int) (hb : -9223372036854775808 ≤ c ∧ c ≤ 9223372036854775807) (w : World) (hW : ∀ i, i < 23 → w.cell? ⟨0, i, none⟩ = some (.int .i64 (widL.getD i 0))) : Calls Tryd.prog 33 #[.int .i64 c] w (WdPost c w) := by
  by_cases h : 40 ≤ c ∧ c ≤ 62
  · obtain ⟨i, hi, hc⟩ : ∃ i : Nat, i < 23 ∧ c = 40 + (i : Int) := ⟨(c - 40).toNat, by omega, by omega⟩
    have hw : widthL c = widL.getD i 0 := by
      unfold widthL
      rw [if_pos h, show (c - 40).toNat = i by omega]
    unfold WdPost
    rw [hw]
    have hcell : ∀ q, (w.drewN q).cell? ⟨0, i, none⟩ = some (.int .i64 (widL.getD i 0)) := fun q => hW i hi
    generalize widL.getD i 0 = x at hcell
    have hs : c - 40 = (i : Int) := by omega
    have h0 : (0 : Int) ≤ (i : Int) := by omega
    have h1 : (i : Int) < 23 := by omega
    have hn : ¬ c < 40 := by omega
    clear hw hW hc h
    go_enter Tryd.func33, Tryd.ntmps33
    go_wp2_with fail
    go_quiet (fail)
    go_wp2
    go_ret2
    exact ⟨rfl, below_drewN (Below.refl _ _) _⟩
  · have hw : widthL c = 0 := by unfold widthL; rw [if_neg h]
    unfold WdPost
    rw [hw]
    clear hw hW
    by_cases h2 : c < 40
    · go_enter Tryd.func33, Tryd.ntmps33
      go_wp2_with fail
      go_ret2
      exact ⟨rfl, Below.refl _ _⟩
    · have h3 : 23 ≤ c - 40 := by omega
      go_enter Tryd.func33, Tryd.ntmps33
      go_wp2_with fail
      go_ret2
      exact ⟨rfl, Below.refl _ _⟩
theorem ag102 : (P : Program) → P = Tryd.prog → (∀ W, (sizeOf 101).run P W = .ok 2 W) ∧ (∀ W, (isAgg 101).run P W = .ok true W) ∧ ∀ W, (underlying 102).run P W = .ok (.array 13 101) W := fun P h => by
  subst h
  exact ⟨fun W => Tryd.sizeOf101 W, fun W => Tryd.isAgg101 W, fun W => run_underlying Tryd.underlying102 W⟩
theorem idx102 (cs : Array Value) (k : Nat) (hk : k < 13) (a b : Int) (h : (cs.toList.drop (k * 2)).take 2 = [.int .i64 a, .int .i64 b]) (W : World) : (Instr.index 102 (.agg cs) (.int .i64 (k : Int))).run Tryd.prog W = .ok (.agg #[.int .i64 a, .int .i64 b]) W := by
  have he := ext_of h rfl
  generalize hP : Tryd.prog = P
  obtain ⟨h1, h2, h3⟩ := ag102 P hP.symm
  have h4 : (k : Int) < 13 := by omega
  simp [Instr.index, asIntOf, h3, part, h1, h2, h4, Result.andThen, he]
  intro h; omega
theorem two {r : List Int} (h : r.length = 2) : r.map (fun z => Value.int .i64 z) = [.int .i64 (r.getD 0 0), .int .i64 (r.getD 1 0)] := by
  match r, h with
  | [a, b], _ => rfl
theorem for_two {r : List Int} (h : r ∈ forL) : r.length = 2 := by
  have hB : (forL.all fun r => decide (r.length = 2)) = true := by kernel_rfl
  simpa using List.all_eq_true.1 hB r h
set_option maxHeartbeats 8000000 in
set_option maxRecDepth 100000 in
theorem Foreign_any (c : Int) (hb : -9223372036854775808 ≤ c ∧ c ≤ 9223372036854775807) (w : World) (hN : Tab w 1 13 2 forL) : Calls Tryd.prog 35 #[.int .i64 c] w fun e w' => e = .returned (.bool (decide (ForP c))) ∧ Below w.heap.size w w' := by
  obtain ⟨cs, t, fr, hh, hsz, hrow⟩ := hN
  have HH := Lib.hid hh
  have HS : Hid ((Tryd.prog.info? 102).map (·.size) = some cs.size) := Lib.hid (by rw [hsz]; kernel_rfl)
  have HR := Lib.hid hrow
  have HL : Hid (forL.length = 13) := Lib.hid rfl
  have IX := Lib.hid (idx102 cs)
  obtain ⟨fb, hfb⟩ : ∃ fb, fb = decide (ForP c) := ⟨_, rfl⟩
  have HY : Hid (∀ r, r ∈ forL → r.getD 0 0 ≤ c → c ≤ r.getD 1 0 → fb = true) := Lib.hid (fun r h1 h2 h3 => by rw [hfb]; exact decide_eq_true ((forP_iff c).2 ⟨r, h1, h2, h3⟩))
  have HZ : Hid ((∀ r, r ∈ forL → ¬ (r.getD 0 0 ≤ c ∧ c ≤ r.getD 1 0)) → fb = false) := Lib.hid (fun h => by rw [hfb]; exact decide_eq_false (fun h2 => by obtain ⟨r, h3, h4⟩ := (forP_iff c).1 h2; exact h r h3 h4))
  rw [← hfb]
  clear hh hsz hrow hfb
  go_enter Tryd.func35, Tryd.ntmps35
  go_wp2_with (with_reducible refine wpList_load_row rfl 102 (.global 1) rfl 1 rfl t cs fr (.array 13 101) HH.out Tryd.underlying102 rfl HS.out ?_)
  go_loopw [6] (fun v6 wr => ∃ k : Nat, k ≤ 13 ∧ v6 = .int .i64 k ∧ Hid (∀ (j : Nat) (r : List Int), j < k → forL[j]? = some r → ¬ (r.getD 0 0 ≤ c ∧ c ≤ r.getD 1 0)) ∧ Hid (Below w.heap.size w wr)) (fun v6 _ => 13 - (intOf v6).toNat)
  case atStart => exact ⟨0, by omega, rfl, Lib.hid (fun j r h => by omega), Lib.hid (Below.refl _ _)⟩
  case round =>
    obtain ⟨k, hk, rfl, HNo, HB⟩ := hrel
    by_cases hlt : k < 13
    · obtain ⟨r, HRr⟩ : ∃ r, Hid (forL[k]? = some r) := ⟨_, Lib.hid (List.getElem?_eq_getElem (by rw [HL.out]; exact hlt))⟩
      have HM := Lib.hid (List.mem_of_getElem? HRr.out)
      have h5 := HR.out k r HRr.out
      rw [two (for_two HM.out)] at h5
      have ix := IX.out k hlt _ _ h5
      have HYr := Lib.hid (HY.out r HM.out)
      have HNN : Hid ((r.getD 0 0 ≤ c → c ≤ r.getD 1 0 → False) → ∀ (j : Nat) (r : List Int), j < k + 1 → forL[j]? = some r → ¬ (r.getD 0 0 ≤ c ∧ c ≤ r.getD 1 0)) := Lib.hid (fun h j r' hj hr' ha => by
        by_cases e : j = k
        · subst e
          obtain rfl : r = r' := Option.some.inj (HRr.out.symm.trans hr')
          exact h ha.1 ha.2
        · exact HNo.out j r' (by omega) hr' ha)
      clear h5
      have hdk : decide ((k : Int) < 13) = true := by simp; omega
      generalize r.getD 0 0 = a at ix HYr HNN
      generalize r.getD 1 0 = b at ix HYr HNN
      have HBa : Hid (Below w.heap.size w (wr.alloc (.cells #[.int .i64 a, .int .i64 b] 101))) := Lib.hid (HB.out.alloc HB.out.size _)
      by_cases h1 : a ≤ c
      · by_cases h2 : c ≤ b
        · have hft := HYr.out h1 h2
          subst hft
          go_wp2_with fail
          go_ret
          exact ⟨rfl, HBa.out⟩
        · have HN2 := Lib.hid (HNN.out (fun _ h => h2 h))
          go_wp2_with fail
          go_roundw
          case rel => exact ⟨k + 1, by omega, by go_num, HN2, HBa⟩
          case measure => simp [intOf]; omega
      · have HN2 := Lib.hid (HNN.out (fun h _ => h1 h))
        go_wp2_with fail
        go_roundw
        case rel => exact ⟨k + 1, by omega, by go_num, HN2, HBa⟩
        case measure => simp [intOf]; omega
    · obtain rfl : k = 13 := by omega
      have hff := HZ.out (fun r hr => by
        obtain ⟨j, hj⟩ := List.getElem?_of_mem hr
        exact HNo.out j r (by rw [← HL.out]; exact (List.getElem?_eq_some_iff.1 hj).1) hj)
      subst hff
      go_wp2_with fail
      go_ret
      exact ⟨rfl, HB.out⟩
end Go.Proofs.YtalpkdnnclghaaaDoor
