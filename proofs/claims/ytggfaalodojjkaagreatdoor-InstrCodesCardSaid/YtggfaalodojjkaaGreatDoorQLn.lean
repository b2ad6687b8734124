/-
  Bytes as strings, and grommetlaw01.begins.
-/
import Derived.Test.YtggfaalodojjkaaGreatDoorQLk
import Derived.Laws.BytesArg
import Derived.BigQuiet
import Derived.Deep.QuietTactic
namespace Go.Proofs.YtggfaalodojjkaaGreatDoor
open Go.RowKit
set_option linter.unusedVariables false
def str (l : List Nat) : ByteArray := strOfNums (l.map Int.ofNat)
theorem str_data (l : List Nat) : (str l).data.toList = l.map UInt8.ofNat := by
  unfold str
  rw [strOfNums_data, List.map_map]; rfl
theorem str_toList (l : List Nat) : (str l).toList = l.map UInt8.ofNat := by
  rw [← str_data]
  exact ByteArray.toList_eq _
theorem ofNat_inj {a b : Nat} (ha : a < 256) (hb : b < 256) (h : UInt8.ofNat a = UInt8.ofNat b) : a = b := by
  have := congrArg UInt8.toNat h
  simp at this
  omega
theorem map_inj : ∀ (a b : List Nat), (∀ x ∈ a, x < 256) → (∀ x ∈ b, x < 256) → a.map UInt8.ofNat = b.map UInt8.ofNat → a = b := by
  intro a
  induction a with
  | nil => intro b _ _ h; cases b with
    | nil => rfl
    | cons y b => simp at h
  | cons x a ih =>
    intro b ha hb h
    cases b with
    | nil => simp at h
    | cons y b =>
      simp only [List.map_cons, List.cons.injEq] at h
      rw [ofNat_inj (ha x (by simp)) (hb y (by simp)) h.1, ih b (fun z hz => ha z (by simp [hz])) (fun z hz => hb z (by simp [hz])) h.2]
theorem str_eq (a b : List Nat) (ha : ∀ x ∈ a, x < 256) (hb : ∀ x ∈ b, x < 256) : ((str a).toList == (str b).toList) = decide (a = b) := by
  rw [str_toList, str_toList, Bool.eq_iff_iff]
  simp only [beq_iff_eq, decide_eq_true_eq]
  exact ⟨map_inj a b ha hb, fun h => by rw [h]⟩
theorem conv_byt {w : World} {A : Option Addr} {n cap : Nat} {l : List Nat} (h : Byt w A n cap l) : (convert 27 9 (.slice A n cap)).run Tryz.prog w = .ok (.string (str l)) w := by
  obtain ⟨hl, hx, hn, hcap, hc⟩ := h
  by_cases h0 : n = 0
  · have e : l = [] := List.eq_nil_of_length_eq_zero (by omega)
    subst e
    subst h0
    cases A with
    | none => exact run_convert_bytes_nil w 27 5 Tryz.underlying27 Tryz.underlying5 0 cap 9 Tryz.underlying9
    | some ad =>
      obtain ⟨b, off, sp⟩ := ad
      rw [run_convert_bytes_string w 27 9 5 _ 0 cap Tryz.underlying27 Tryz.underlying5 Tryz.underlying9, run_bytesToString w _ 0 cap [] (by
        have := run_loadCells_list (P := Tryz.prog) w ⟨b, off, sp⟩ [] (fun j v hj => by simp at hj)
        simpa using this)]
      rfl
  · obtain ⟨b, off, rfl, _, hcell⟩ := hc (by omega)
    refine run_convert_bytes_arg w 27 5 Tryz.underlying27 Tryz.underlying5 b off n cap (l.map Int.ofNat) (by rw [List.length_map]; exact hl) (fun i hi => ?_) 9 Tryz.underlying9
    rw [hcell i hi]
    congr 2
    rw [List.getD_eq_getElem?_getD, List.getD_eq_getElem?_getD, List.getElem?_map, List.getElem?_eq_getElem (by omega)]
    rfl
theorem Byt.kept {w w' : World} {A : Option Addr} {n cap : Nat} {l : List Nat} (h : Byt w A n cap l) (hb : Below w.heap.size w w') : Byt w' A n cap l := Byt.below (B := 0) h hb
theorem Byt.drewN {w : World} {A : Option Addr} {n cap : Nat} {l : List Nat} (h : Byt w A n cap l) (k : Nat) : Byt (w.drewN k) A n cap l := h
def bg (a b : List Nat) : Bool := decide (b.length ≤ a.length ∧ a.take b.length = b)
end Go.Proofs.YtggfaalodojjkaaGreatDoor
