/-
  A list of types as text: what types.text builds.
-/
import Derived.Test.YtalpkdnnclghaaaDoorNa
import Derived.Test.YtalpkdnnclghaaaDoorSf
import Derived.Lib.Builder
import Derived.Outline
namespace Go.Proofs.YtalpkdnnclghaaaDoor
open Go.RowKit Go.ChangeShapes Go.WideShapes Go.ChangeAt
set_option linter.unusedVariables false
set_option linter.unusedSimpArgs false
/-- the text so far -/
def txt (l : List Nat) : Nat → List UInt8
  | 0 => [40]
  | k + 1 => txt l k ++ ((if k = 0 then [] else [44]) ++ (nmT (l.getD k 0)).data.toList)
def txtL (l : List Nat) : ByteArray := ⟨(txt l l.length ++ [41]).toArray⟩
theorem nmT_len (t : Nat) : (nmT t).size ≤ 3 := by
  unfold nmT
  split
  · decide
  · split <;> decide
theorem txt_len (l : List Nat) (k : Nat) : (txt l k).length ≤ 1 + 4 * k := by
  induction k with
  | zero => simp [txt]
  | succ k ih =>
    have h := nmT_len (l.getD k 0)
    have h2 : (nmT (l.getD k 0)).data.toList.length = (nmT (l.getD k 0)).size := by simp
    simp only [txt, List.length_append, h2]
    split <;> simp only [List.length_nil, List.length_cons] <;> omega
theorem info115 : (Tryd.prog.info? 115).map (fun i => (i.zero, i.size, i.bytes)) = some (some (.agg #[.pointer none, .slice none 0 0]), 2, 32) := by kernel_rfl
set_option maxHeartbeats 4000000 in
set_option maxRecDepth 100000 in
theorem text_any (A : Option Addr) (n cap : Nat) (l : List Nat) (hn : n ≤ 1000) (w : World) (hb : Byt w A n cap l) :
    Calls Tryd.prog 46 #[.slice A n cap] w fun e w' => e = .returned (.string (txtL l)) ∧ Below w.heap.size w w' := by
  obtain ⟨hl, hx, hcap, hcm, hc⟩ := hb
  subst hl
  have HC := Lib.hid hc
  have HX := Lib.hid hx
  have hn9 : l.length ≤ 1000 := hn
  have HF := Lib.hid (Lib.fresh_isBuilder 115 5 w)
  clear hc hx
  go_enter Tryd.func46, Tryd.ntmps46
  have hB0 : w.heap.size ≤ (w.alloc (Obj.cells #[Value.pointer none, Value.slice none 0 0] 115)).heap.size := by simp
  go_wp2_with (go_at_call 65; with_reducible refine (Tryd.Builder_WriteByte w.heap.size w.heap.size [] 40 _ HF.out (by simp) hB0).mono ?_)
  rintro e w1 ⟨rfl, h1, b1⟩
  have HI := Lib.hid (show Lib.IsBuilder 115 5 w.heap.size w.heap.size (Lib.byteCells (txt l 0)) w1 from .inr h1)
  have HB := Lib.hid (((Below.refl w.heap.size w).alloc (Nat.le_refl _) _).trans b1)
  clear h1 b1
  go_wp2
  go_loopw [9] (fun v9 wr => ∃ k : Nat, k ≤ l.length ∧ v9 = .int .i64 k ∧ Hid (Lib.IsBuilder 115 5 w.heap.size w.heap.size (Lib.byteCells (txt l k)) wr) ∧ Hid (Below w.heap.size w wr)) (fun v9 _ => l.length - (intOf v9).toNat)
  case atStart => exact ⟨0, by omega, rfl, HI, HB⟩
  case round =>
    clear HI HB
    obtain ⟨k, hk, rfl, HI, HB⟩ := hrel
    by_cases hlt : k < l.length
    · obtain ⟨b, off, rfl, hbl, hcell⟩ := HC.out (by omega)
      have h0 := hcell k hlt
      rw [← HB.out.cell (p := ⟨b, off + k, none⟩) hbl] at h0
      have hy : l.getD k 0 < 256 := by
        rw [List.getD_eq_getElem?_getD, List.getElem?_eq_getElem hlt]; exact HX.out _ (List.getElem_mem hlt)
      have HT := Lib.hid (show txt l (k + 1) = txt l k ++ ((if k = 0 then [] else [44]) ++ (nmT (l.getD k 0)).data.toList) from rfl)
      have HL := Lib.hid (txt_len l k)
      clear hcell
      generalize l.getD k 0 = y at h0 hy HT
      by_cases hk0 : k = 0
      · subst hk0
        rw [Nat.add_zero] at h0
        have hws : w.heap.size ≤ wr.heap.size := HB.out.size
        have hl1 : (Lib.byteCells (txt l 0)).length + (nmT y).size ≤ 140737488355328 := by
          rw [Lib.byteCells_length]; have := nmT_len y; have := HL.out; omega
        go_wp2_with (first | (go_at_call 28; with_reducible refine (Name_ok y hy _).mono ?_; rintro e w2 ⟨rfl, rfl⟩) | (go_at_call 66; with_reducible refine (Tryd.Builder_WriteString w.heap.size w.heap.size _ (nmT y) _ HI.out hl1 hws).mono ?_))
        rintro e w2 ⟨rfl, h2, b2⟩
        have HI2 := Lib.hid (show Lib.IsBuilder 115 5 w.heap.size w.heap.size (Lib.byteCells (txt l (0 + 1))) w2 from .inr (by
          rw [HT.out, Lib.byteCells_append, if_pos trivial, List.nil_append, ← Lib.strCells_eq]; exact h2))
        have HB2 := Lib.hid (HB.out.trans b2)
        clear h2 b2
        go_wp2
        go_roundw
        case rel => exact ⟨0 + 1, by omega, by go_num, HI2, HB2⟩
        case measure => simp [intOf]; omega
      · have hws : w.heap.size ≤ wr.heap.size := HB.out.size
        have hk1 : (0 : Int) < (k : Int) := by omega
        have hl0 : (Lib.byteCells (txt l k)).length + 1 ≤ 140737488355328 := by
          rw [Lib.byteCells_length]; have := HL.out; omega
        have hl1 : (Lib.byteCells (txt l k) ++ [Value.int .u8 44]).length + (nmT y).size ≤ 140737488355328 := by
          rw [List.length_append, Lib.byteCells_length, List.length_singleton]; have := nmT_len y; have := HL.out; omega
        go_wp2_with (go_at_call 65; with_reducible refine (Tryd.Builder_WriteByte w.heap.size w.heap.size _ 44 _ HI.out hl0 hws).mono ?_)
        rintro e w1 ⟨rfl, h1, b1⟩
        have HI1 := Lib.hid (show Lib.IsBuilder 115 5 w.heap.size w.heap.size (Lib.byteCells (txt l k) ++ [Value.int .u8 44]) w1 from .inr h1)
        have HB1 := Lib.hid (HB.out.trans b1)
        have hws1 : w.heap.size ≤ w1.heap.size := HB1.out.size
        clear h1 b1
        go_wp2_with (first | (go_at_call 28; with_reducible refine (Name_ok y hy _).mono ?_; rintro e w2 ⟨rfl, rfl⟩) | (go_at_call 66; with_reducible refine (Tryd.Builder_WriteString w.heap.size w.heap.size _ (nmT y) _ HI1.out hl1 hws1).mono ?_))
        rintro e w2 ⟨rfl, h2, b2⟩
        have HI2 := Lib.hid (show Lib.IsBuilder 115 5 w.heap.size w.heap.size (Lib.byteCells (txt l (k + 1))) w2 from .inr (by
          rw [HT.out, Lib.byteCells_append, if_neg hk0, Lib.byteCells_append, ← List.append_assoc, ← Lib.strCells_eq]; exact h2))
        have HB2 := Lib.hid (HB1.out.trans b2)
        clear h2 b2
        go_wp2
        go_roundw
        case rel => exact ⟨k + 1, by omega, by go_num, HI2, HB2⟩
        case measure => simp [intOf]; omega
    · obtain rfl : k = l.length := by omega
      have hws : w.heap.size ≤ wr.heap.size := HB.out.size
      have HL := Lib.hid (txt_len l l.length)
      have hl0 : (Lib.byteCells (txt l l.length)).length + 1 ≤ 140737488355328 := by
        rw [Lib.byteCells_length]; have := HL.out; omega
      go_wp2_with (go_at_call 65; with_reducible refine (Tryd.Builder_WriteByte w.heap.size w.heap.size _ 41 _ HI.out hl0 hws).mono ?_)
      rintro e w1 ⟨rfl, h1, b1⟩
      have HI1 := Lib.hid (show Lib.IsBuilder 115 5 w.heap.size w.heap.size (Lib.byteCells (txt l l.length ++ [41])) w1 from .inr (by rw [Lib.byteCells_append]; exact h1))
      have HB1 := Lib.hid (HB.out.trans b1)
      have hws1 : w.heap.size ≤ w1.heap.size := HB1.out.size
      clear h1 b1
      go_wp2_with (go_at_call 67; with_reducible refine (Tryd.Builder_String_any w.heap.size w.heap.size (txt l l.length ++ [41]) _ HI1.out hws1).mono ?_)
      rintro e w2 ⟨rfl, b2⟩
      have HB2 := Lib.hid (HB1.out.trans b2)
      clear b2
      go_wp2
      go_ret
      exact ⟨rfl, HB2.out⟩
end Go.Proofs.YtalpkdnnclghaaaDoor
