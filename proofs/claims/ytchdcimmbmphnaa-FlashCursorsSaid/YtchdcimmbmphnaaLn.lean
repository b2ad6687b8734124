/-
  Bytes as strings, and grommetlaw01.begins.
-/
import Derived.Test.YtchdcimmbmphnaaLk
import Derived.Laws.BytesArg
import Derived.BigQuiet
import Derived.Deep.QuietTactic
namespace Go.Proofs.Ytchdcimmbmphnaa
open Go.RowKit
set_option linter.unusedVariables false
def str (l : List Nat) : ByteArray := strOfNums (l.map Int.ofNat)
theorem str_data (l : List Nat) : (str l).data.toList = l.map UInt8.ofNat := by
  unfold str
  rw [strOfNums_data, List.map_map]; rfl
theorem str_toList (l : List Nat) : (str l).toList = l.map UInt8.ofNat := by
  rw [← str_data]
  exact ByteArray.toList_eq _
theorem ofNat_inj {a b : Nat} (ha : a < 256) (hb : b < 256) (h : UInt8.ofNat a = UInt8.ofNat b) : a = b := by
  have := congrArg UInt8.toNat h
  simp at this
  omega
theorem map_inj : ∀ (a b : List Nat), (∀ x ∈ a, x < 256) → (∀ x ∈ b, x < 256) → a.map UInt8.ofNat = b.map UInt8.ofNat → a = b := by
  intro a
  induction a with
  | nil => intro b _ _ h; cases b with
    | nil => rfl
    | cons y b => simp at h
  | cons x a ih =>
    intro b ha hb h
    cases b with
    | nil => simp at h
    | cons y b =>
      simp only [List.map_cons, List.cons.injEq] at h
      rw [ofNat_inj (ha x (by simp)) (hb y (by simp)) h.1, ih b (fun z hz => ha z (by simp [hz])) (fun z hz => hb z (by simp [hz])) h.2]
theorem str_eq (a b : List Nat) (ha : ∀ x ∈ a, x < 256) (hb : ∀ x ∈ b, x < 256) : ((str a).toList == (str b).toList) = decide (a = b) := by
  rw [str_toList, str_toList, Bool.eq_iff_iff]
  simp only [beq_iff_eq, decide_eq_true_eq]
  exact ⟨map_inj a b ha hb, fun h => by rw [h]⟩
theorem conv_byt {w : World} {A : Option Addr} {n cap : Nat} {l : List Nat} (h : Byt w A n cap l) : (convert 22 9 (.slice A n cap)).run Try.prog w = .ok (.string (str l)) w := by
  obtain ⟨hl, hx, hn, hcap, hc⟩ := h
  by_cases h0 : n = 0
  · have e : l = [] := List.eq_nil_of_length_eq_zero (by omega)
    subst e
    subst h0
    cases A with
    | none => exact run_convert_bytes_nil w 22 5 Try.underlying22 Try.underlying5 0 cap 9 Try.underlying9
    | some ad =>
      obtain ⟨b, off, sp⟩ := ad
      rw [run_convert_bytes_string w 22 9 5 _ 0 cap Try.underlying22 Try.underlying5 Try.underlying9, run_bytesToString w _ 0 cap [] (by
        have := run_loadCells_list (P := Try.prog) w ⟨b, off, sp⟩ [] (fun j v hj => by simp at hj)
        simpa using this)]
      rfl
  · obtain ⟨b, off, rfl, _, hcell⟩ := hc (by omega)
    refine run_convert_bytes_arg w 22 5 Try.underlying22 Try.underlying5 b off n cap (l.map Int.ofNat) (by rw [List.length_map]; exact hl) (fun i hi => ?_) 9 Try.underlying9
    rw [hcell i hi]
    congr 2
    rw [List.getD_eq_getElem?_getD, List.getD_eq_getElem?_getD, List.getElem?_map, List.getElem?_eq_getElem (by omega)]
    rfl
theorem Byt.kept {w w' : World} {A : Option Addr} {n cap : Nat} {l : List Nat} (h : Byt w A n cap l) (hb : Below w.heap.size w w') : Byt w' A n cap l := Byt.below (B := 0) h hb
theorem Byt.drewN {w : World} {A : Option Addr} {n cap : Nat} {l : List Nat} (h : Byt w A n cap l) (k : Nat) : Byt (w.drewN k) A n cap l := h
def bg (a b : List Nat) : Bool := decide (b.length ≤ a.length ∧ a.take b.length = b)
set_option maxHeartbeats 400000 in
set_option maxRecDepth 100000 in
theorem begins_any (A B : Option Addr) (n cap m cap2 : Nat) (a b : List Nat) (w : World) (ha : Byt w A n cap a) (hb : Byt w B m cap2 b) :
    Calls Try.prog 24 #[.slice A n cap, .slice B m cap2] w fun e w' => e = .returned (.bool (bg a b)) ∧ ∃ k, w.drewN k = w' := by
  have hn : n ≤ cap := ha.2.2.1
  have hcap : cap ≤ 9223372036854775807 := ha.2.2.2.1
  have hcap2 : cap2 ≤ 9223372036854775807 := hb.2.2.2.1
  have hm2 : m ≤ cap2 := hb.2.2.1
  by_cases h : m ≤ n
  · have hc1 : ∀ k, (convert 22 9 (.slice A m cap)).run Try.prog (w.drewN k) = .ok (.string (str (a.take m))) (w.drewN k) := fun k => conv_byt ((ha.take m h).drewN k)
    have hc2 : ∀ k, (convert 22 9 (.slice B m cap2)).run Try.prog (w.drewN k) = .ok (.string (str b)) (w.drewN k) := fun k => conv_byt (hb.drewN k)
    have hd : decide ((m : Int) ≤ (n : Int)) = true := by simp; omega
    have HE : Hid (((str (a.take m)).toList == (str b).toList) = bg a b) := Lib.hid (by
      rw [str_eq _ _ (fun x hx => ha.2.1 x (List.mem_of_mem_take hx)) hb.2.1]
      unfold bg
      rw [Bool.eq_iff_iff]
      simp only [decide_eq_true_eq]
      rw [hb.1, ha.1]
      exact ⟨fun e => ⟨h, e⟩, fun e => e.2⟩)
    clear ha hb
    go_enter Try.func24, Try.ntmps24
    go_wp2
    go_quiet (fail)
    go_wp2
    go_ret
    exact ⟨ret_bool HE.out, _, rfl⟩
  · have hd : decide ((m : Int) ≤ (n : Int)) = false := by simp; omega
    have HE : Hid (false = bg a b) := Lib.hid (by
      unfold bg
      rw [hb.1, ha.1]
      simp [h])
    clear ha hb
    go_enter Try.func24, Try.ntmps24
    go_wp2
    go_quiet (fail)
    go_wp2
    go_ret
    exact ⟨ret_bool HE.out, _, rfl⟩
end Go.Proofs.Ytchdcimmbmphnaa
