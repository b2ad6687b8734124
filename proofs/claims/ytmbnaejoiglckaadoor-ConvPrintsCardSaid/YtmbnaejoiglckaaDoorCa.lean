/-
  Bytes in memory, strings of bytes, make; strconv's text of -1; the given example of layer 6 (awake).
-/
import Derived.Test.YtmbnaejoiglckaaDoorRa
import Derived.WalkSpells
import Derived.Deep.RegionWith
import Derived.StillTailTactics
import Derived.Laws.CopyOwn
import Derived.Laws.BytesArg
import Derived.OwnWalk
import Derived.Deep.OwnRows
import Derived.WalkSmall
namespace Go.Proofs.YtmbnaejoiglckaaDoor
open Go.RowKit
set_option linter.unusedVariables false
def Byt (w : World) (A : Option Addr) (n cap : Nat) (l : List Nat) : Prop :=
  l.length = n ∧ (∀ x ∈ l, x < 256) ∧ n ≤ cap ∧ cap ≤ maxLen ∧ (0 < n → ∃ b off, A = some ⟨b, off, none⟩ ∧ b < w.heap.size ∧ ∀ j, j < n → w.cell? ⟨b, off + j, none⟩ = some (.int .u8 ((l.getD j 0 : Nat) : Int)))
theorem info5 : (Tryd.prog.info? 5).map (fun i => (i.zero, i.size, i.bytes)) = some (some (.int .u8 0), 1, 1) := by kernel_rfl
theorem Byt.below {w w' : World} {A : Option Addr} {n cap B : Nat} {l : List Nat} (h : Byt w A n cap l) (hb : Below w.heap.size w w') : Byt w' A n cap l := by
  obtain ⟨hl, hx, hn, hcap, hc⟩ := h
  refine ⟨hl, hx, hn, hcap, fun h0 => ?_⟩
  obtain ⟨b, off, rfl, hbl, hcell⟩ := hc h0
  exact ⟨b, off, rfl, Nat.lt_of_lt_of_le hbl hb.size, fun j hj => (hb.cell (p := ⟨b, off + j, none⟩) hbl).trans (hcell j hj)⟩
/-- an argument that is a slice of integers: nil, or a row of cells -/
def IsRow (k : IntKind) (w : World) (a : Option Addr) (len cap : Nat) (zs : List Int) : Prop :=
  (a = none ∧ len = 0 ∧ cap = 0 ∧ zs = []) ∨
  ∃ x, a = some x ∧ len ≤ cap ∧ cap ≤ maxLen ∧ zs.length = cap ∧ (∀ i, i < zs.length → w.cell? (x.add i) = some (.int k (zs.getD i 0))) ∧ ∀ n ∈ zs, (Lit.int k n).wf = true
theorem wf_u8 {n : Int} (h : (Lit.int .u8 n).wf = true) : 0 ≤ n ∧ n < 256 := by
  have := bounds_u8 h
  omega
theorem lt_of_cell {w : World} {p : Addr} {v : Value} (h : w.cell? p = some v) : p.block < w.heap.size := by
  rcases Nat.lt_or_ge p.block w.heap.size with h0 | h0
  · exact h0
  · unfold World.cell? at h
    rw [Array.getElem?_eq_none h0] at h
    simp at h
theorem byt_of_row {w : World} {a : Option Addr} {len cap : Nat} {zs : List Int} (h : IsRow .u8 w a len cap zs) : ∃ l, Byt w a len cap l := by
  rcases h with ⟨rfl, rfl, rfl, rfl⟩ | ⟨x, rfl, hl, hm, hz, hc, hw⟩
  · exact ⟨[], rfl, by simp, Nat.le_refl _, Nat.zero_le _, fun h => by omega⟩
  · refine ⟨(zs.take len).map Int.toNat, by simp; omega, ?_, hl, hm, fun h0 => ?_⟩
    · intro n hn
      rw [List.mem_map] at hn
      obtain ⟨z, hz1, rfl⟩ := hn
      have := wf_u8 (hw z (List.mem_of_mem_take hz1))
      omega
    · have h1 := hc 0 (by omega)
      obtain ⟨b, off, spot⟩ := x
      have hspot : spot = none := by simpa [Addr.add] using World.cell?_spot h1
      subst hspot
      have e : ∀ i, (⟨b, off, none⟩ : Addr).add i = ⟨b, off + i, none⟩ := fun i => by cases i <;> rfl
      refine ⟨b, off, rfl, by have := lt_of_cell h1; rw [e] at this; exact this, fun j hj => ?_⟩
      have h2 := hc j (by omega)
      rw [e] at h2
      rw [h2]
      have hjz : j < zs.length := by omega
      have h3 := wf_u8 (hw _ (List.getElem_mem hjz))
      rw [List.getD_eq_getElem?_getD, List.getD_eq_getElem?_getD, List.getElem?_map, List.getElem?_take_of_lt hj, List.getElem?_eq_getElem hjz]
      simp only [Option.map_some, Option.getD_some]
      rw [Int.toNat_of_nonneg h3.1]
def U8 (x : Nat) : Value := .int .u8 (x : Nat)
/-- make with a length and a capacity -/
theorem wpList_make_lc {P : Program} (w : World) {ops : Array Oper} {rest : List Oper} {o : Oper} {a : Act} {Q : Exit → Act → World → Prop}
    (hg : o.guard = none) (l c : Operand) (t : TypeId) (hop : o.op = Op.makeSlice t l c)
    (e : TypeId) (i : TypeInfo) (z : Value) (h1 : P.underlying t = some (.slice e)) (h2 : P.info? e = some i) (h3 : i.zero = some z) (h4 : i.size = 1)
    (kl kc : IntKind) (L C : Int) (n m : Nat) (hl : a.eval l = .int kl L) (hc : a.eval c = .int kc C) (hL : L = (n : Int)) (hC : C = (m : Int)) (hnm : n ≤ m) (b2 : i.bytes * m ≤ 281474976710656) (b3 : m ≤ maxLen)
    (hK : ∀ w', Hid (w'.heap[w.heap.size]? = some (.cells (madeCells z.cells m) e (0, 0))) → Below w.heap.size w w' → wpList P ops Q rest (a.put o.dst (.slice (some ⟨w.heap.size, 0, none⟩) n m)) w') :
    wpList P ops Q (o :: rest) a w := by
  refine wpList_plain hg fun K hK' => ?_
  have hm : (m : Int) ≤ 9223372036854775807 := by simp [maxLen] at b3; omega
  have hb : (i.bytes : Int) * (m : Int) ≤ 281474976710656 := by
    have h : ((i.bytes * m : Nat) : Int) ≤ 281474976710656 := by omega
    rwa [Int.natCast_mul] at h
  have hrun := run_make (P := P) w t e i z h1 h2 h3 kl kc (n : Int) (m : Int) (by omega) (by omega) hb hm
  simp only [Int.toNat_natCast, h4, Nat.mul_one] at hrun
  subst hL
  subst hC
  unfold Oper.wp
  simp [execOp, hop, hl, hc, hrun, Result.andThen]
  exact hK' _ _ (hK _ (Lib.hid (heap_alloc_new w _)) ((Below.refl _ _).alloc (Nat.le_refl _) _))
theorem map_getD (l : List Nat) (j : Nat) (h : j < l.length) : (l.map U8)[j]? = some (U8 (l.getD j 0)) := by
  rw [List.getElem?_map, List.getElem?_eq_getElem h, List.getD_eq_getElem?_getD, List.getElem?_eq_getElem h]; rfl
theorem addr_add (b off j : Nat) : (⟨b, off, none⟩ : Addr).add j = ⟨b, off + j, none⟩ := by cases j <;> rfl
def str (l : List Nat) : ByteArray := strOfNums (l.map Int.ofNat)
theorem str_data (l : List Nat) : (str l).data.toList = l.map UInt8.ofNat := by
  unfold str
  rw [strOfNums_data, List.map_map]; rfl
theorem str_toList (l : List Nat) : (str l).toList = l.map UInt8.ofNat := by
  rw [← str_data]
  exact ByteArray.toList_eq _
theorem ofNat_inj {a b : Nat} (ha : a < 256) (hb : b < 256) (h : UInt8.ofNat a = UInt8.ofNat b) : a = b := by
  have := congrArg UInt8.toNat h
  simp at this
  omega
theorem map_inj : ∀ (a b : List Nat), (∀ x ∈ a, x < 256) → (∀ x ∈ b, x < 256) → a.map UInt8.ofNat = b.map UInt8.ofNat → a = b := by
  intro a
  induction a with
  | nil => intro b _ _ h; cases b with
    | nil => rfl
    | cons y b => simp at h
  | cons x a ih =>
    intro b ha hb h
    cases b with
    | nil => simp at h
    | cons y b =>
      simp only [List.map_cons, List.cons.injEq] at h
      rw [ofNat_inj (ha x (by simp)) (hb y (by simp)) h.1, ih b (fun z hz => ha z (by simp [hz])) (fun z hz => hb z (by simp [hz])) h.2]
theorem str_eq (a b : List Nat) (ha : ∀ x ∈ a, x < 256) (hb : ∀ x ∈ b, x < 256) : ((str a).toList == (str b).toList) = decide (a = b) := by
  rw [str_toList, str_toList, Bool.eq_iff_iff]
  simp only [beq_iff_eq, decide_eq_true_eq]
  exact ⟨map_inj a b ha hb, fun h => by rw [h]⟩
theorem conv_byt {w : World} {A : Option Addr} {n cap : Nat} {l : List Nat} (h : Byt w A n cap l) : (convert 40 9 (.slice A n cap)).run Tryd.prog w = .ok (.string (str l)) w := by
  obtain ⟨hl, hx, hn, hcap, hc⟩ := h
  by_cases h0 : n = 0
  · have e : l = [] := List.eq_nil_of_length_eq_zero (by omega)
    subst e
    subst h0
    cases A with
    | none => exact run_convert_bytes_nil w 40 5 Tryd.underlying40 Tryd.underlying5 0 cap 9 Tryd.underlying9
    | some ad =>
      obtain ⟨b, off, sp⟩ := ad
      rw [run_convert_bytes_string w 40 9 5 _ 0 cap Tryd.underlying40 Tryd.underlying5 Tryd.underlying9, run_bytesToString w _ 0 cap [] (by
        have := run_loadCells_list (P := Tryd.prog) w ⟨b, off, sp⟩ [] (fun j v hj => by simp at hj)
        simpa using this)]
      rfl
  · obtain ⟨b, off, rfl, _, hcell⟩ := hc (by omega)
    refine run_convert_bytes_arg w 40 5 Tryd.underlying40 Tryd.underlying5 b off n cap (l.map Int.ofNat) (by rw [List.length_map]; exact hl) (fun i hi => ?_) 9 Tryd.underlying9
    rw [hcell i hi]
    congr 2
    rw [List.getD_eq_getElem?_getD, List.getD_eq_getElem?_getD, List.getElem?_map, List.getElem?_eq_getElem (by omega)]
    rfl
theorem Byt.kept {w w' : World} {A : Option Addr} {n cap : Nat} {l : List Nat} (h : Byt w A n cap l) (hb : Below w.heap.size w w') : Byt w' A n cap l := Byt.below (B := 0) h hb
theorem Byt.drewN {w : World} {A : Option Addr} {n cap : Nat} {l : List Nat} (h : Byt w A n cap l) (k : Nat) : Byt (w.drewN k) A n cap l := h
set_option maxHeartbeats 4000000 in
set_option maxRecDepth 100000 in
theorem ND1 (w : World) (h0 : w.cell? ⟨1, 0, none⟩ = some (.int .u64 1)) :
    Calls Tryd.prog 60 #[.int .u64 1] w fun e w' => e = .returned (.int .i64 1) ∧ w = w' := by
  have L : Calls Tryd.prog 51 #[.int .u64 1] w fun e w' => e = .returned (.int .i64 1) ∧ w = w' := Len64_any 1 w (by decide) (by decide)
  have HL := Lib.hid L
  clear L
  go_enter Tryd.func60, Tryd.ntmps60
  go_wp2_with (first | (go_at_call 51; refine HL.out.mono ?_; rintro e w1 ⟨rfl, rfl⟩) | go_in)
  go_ret
  exact ⟨rfl, rfl⟩
def Z24 : Array Value := #[.int .u8 0, .int .u8 0, .int .u8 0, .int .u8 0, .int .u8 0, .int .u8 0, .int .u8 0, .int .u8 0, .int .u8 0, .int .u8 0, .int .u8 0, .int .u8 0, .int .u8 0, .int .u8 0, .int .u8 0, .int .u8 0, .int .u8 0, .int .u8 0, .int .u8 0, .int .u8 0, .int .u8 0, .int .u8 0, .int .u8 0, .int .u8 0]
set_option maxHeartbeats 4000000 in
set_option maxRecDepth 100000 in
theorem FB1 (w : World) :
    Calls Tryd.prog 61 #[.slice (some ⟨w.heap.size, 1, none⟩) 1 23, .int .u64 1] (w.alloc (.cells #[.int .u8 0, .int .u8 0, .int .u8 0, .int .u8 0, .int .u8 0, .int .u8 0, .int .u8 0, .int .u8 0, .int .u8 0, .int .u8 0, .int .u8 0, .int .u8 0, .int .u8 0, .int .u8 0, .int .u8 0, .int .u8 0, .int .u8 0, .int .u8 0, .int .u8 0, .int .u8 0, .int .u8 0, .int .u8 0, .int .u8 0, .int .u8 0] 82))
    fun e w' => e = .returned (.tuple #[]) ∧ (w.alloc (.cells #[.int .u8 0, .int .u8 49, .int .u8 0, .int .u8 0, .int .u8 0, .int .u8 0, .int .u8 0, .int .u8 0, .int .u8 0, .int .u8 0, .int .u8 0, .int .u8 0, .int .u8 0, .int .u8 0, .int .u8 0, .int .u8 0, .int .u8 0, .int .u8 0, .int .u8 0, .int .u8 0, .int .u8 0, .int .u8 0, .int .u8 0, .int .u8 0] 82)) = w' := by
  go_enter Tryd.func61, Tryd.ntmps61
  go_wp2_with go_in
  go_loop [1, 4] (fun v1 v4 => v1 = .int .u64 1 ∧ v4 = .int .i64 1) (fun _ _ => 0)
  case atStart => exact ⟨rfl, rfl⟩
  case round =>
    obtain ⟨rfl, rfl⟩ := hrel
    go_wp2_with go_in
    first
      | go_end0
      | ((try simp only [Exit.inBlock, Exit.then]); refine bodyPost_ret (results_none rfl _ _ _) rfl ?_)
    exact ⟨rfl, rfl⟩
set_option maxHeartbeats 4000000 in
set_option maxRecDepth 100000 in
theorem Fmt_m1 (w : World) (h0 : w.cell? ⟨1, 0, none⟩ = some (.int .u64 1)) (hs : 1 < w.heap.size) :
    Calls Tryd.prog 55 #[.int .i64 (-1), .int .i64 10] w fun e w' => e = .returned (.string ⟨#[45, 49]⟩) ∧ Below w.heap.size w w' := by
  have e1 : IntKind.u64.wrap (-1) = 18446744073709551615 := by rw [IntKind.wrap_u64]; rfl
  have e2 : IntKind.u64.wrap (-18446744073709551615) = 1 := by rw [IntKind.wrap_u64]; rfl
  have N := Lib.hid (fun w1 : World => ND1 w1)
  have H0 := Lib.hid h0
  have HS := Lib.hid hs
  have FB := Lib.hid (FB1 w)
  have hb : Byt (w.alloc (.cells #[.int .u8 45, .int .u8 49, .int .u8 0, .int .u8 0, .int .u8 0, .int .u8 0, .int .u8 0, .int .u8 0, .int .u8 0, .int .u8 0, .int .u8 0, .int .u8 0, .int .u8 0, .int .u8 0, .int .u8 0, .int .u8 0, .int .u8 0, .int .u8 0, .int .u8 0, .int .u8 0, .int .u8 0, .int .u8 0, .int .u8 0, .int .u8 0] 82)) (some ⟨w.heap.size, 0, none⟩) 2 24 [45, 49] := by
    refine ⟨rfl, by decide, by decide, by decide, fun _ => ⟨w.heap.size, 0, rfl, by simp, fun j hj => ?_⟩⟩
    rw [World.cell?_alloc_at _ _ _ _ rfl]
    rcases (by omega : j = 0 ∨ j = 1) with rfl | rfl <;> rfl
  have hst : str [45, 49] = ⟨#[45, 49]⟩ := by decide
  have hcv := conv_byt hb
  rw [hst] at hcv
  clear hb hst
  clear h0 hs
  go_enter Tryd.func55, Tryd.ntmps55
  go_wp2_with (first
    | (go_at_call 60; refine (N.out _ ((((Below.refl w.heap.size w).alloc (Nat.le_refl _) _).cell (p := ⟨1, 0, none⟩) HS.out).trans H0.out)).mono ?_; rintro e w1 ⟨rfl, rfl⟩)
    | (go_at_call 61; with_reducible refine FB.out.mono ?_; rintro e w2 ⟨rfl, rfl⟩)
    | go_in)
  go_ret
  exact ⟨rfl, (Below.refl _ _).alloc (Nat.le_refl _) _⟩
end Go.Proofs.YtmbnaejoiglckaaDoor
