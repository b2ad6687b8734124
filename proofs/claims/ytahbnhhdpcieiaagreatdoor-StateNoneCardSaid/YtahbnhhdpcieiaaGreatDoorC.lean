/-
  Bytes in memory, frames, strings of bytes, make; common to all texts of this seat.
-/
import Derived.Test.YtahbnhhdpcieiaaGreatDoorI
import Derived.Test.YtahbnhhdpcieiaaGreatDoorProg
import Derived.WalkSpells
import Derived.WalkLawsBesides
import Derived.BigQuiet
import Derived.Deep.QuietTactic
import Derived.Deep.RegionWith
import Derived.StillTailTactics
import Derived.Lib.Hide
import Derived.Laws.BitsAllLaws
import Derived.Laws.CopyOwn
import Derived.Laws.BytesArg
import Derived.OwnWalk
import Derived.Deep.OwnRows
import Derived.Deep.DeepFit
import Derived.Deep.DeepMust
import Derived.ProofKit
import Derived.OpenShut
import Derived.WalkSmall
namespace Go.Proofs.YtahbnhhdpcieiaaGreatDoor
open Go.RowKit
set_option linter.unusedVariables false
def Byt (w : World) (A : Option Addr) (n cap : Nat) (l : List Nat) : Prop :=
  l.length = n ∧ (∀ x ∈ l, x < 256) ∧ n ≤ cap ∧ cap ≤ maxLen ∧ (0 < n → ∃ b off, A = some ⟨b, off, none⟩ ∧ b < w.heap.size ∧ ∀ j, j < n → w.cell? ⟨b, off + j, none⟩ = some (.int .u8 ((l.getD j 0 : Nat) : Int)))
theorem ret_bool {a b : Bool} (h : a = b) : Ending.returned (.bool a) = .returned (.bool b) := by rw [h]
theorem ret_int {k : IntKind} {a b : Int} (h : a = b) : Ending.returned (.int k a) = .returned (.int k b) := by rw [h]
theorem ret_pair {k j : IntKind} {a b c d : Int} (h : a = b) (h' : c = d) : Ending.returned (.tuple #[.int k a, .int j c]) = .returned (.tuple #[.int k b, .int j d]) := by rw [h, h']
theorem info4 : (Tryz.prog.info? 4).map (fun i => (i.zero, i.size, i.bytes)) = some (some (.bool false), 1, 1) := by kernel_rfl
theorem info5 : (Tryz.prog.info? 5).map (fun i => (i.zero, i.size, i.bytes)) = some (some (.int .u8 0), 1, 1) := by kernel_rfl
theorem Byt.below {w w' : World} {A : Option Addr} {n cap B : Nat} {l : List Nat} (h : Byt w A n cap l) (hb : Below w.heap.size w w') : Byt w' A n cap l := by
  obtain ⟨hl, hx, hn, hcap, hc⟩ := h
  refine ⟨hl, hx, hn, hcap, fun h0 => ?_⟩
  obtain ⟨b, off, rfl, hbl, hcell⟩ := hc h0
  exact ⟨b, off, rfl, Nat.lt_of_lt_of_le hbl hb.size, fun j hj => (hb.cell (p := ⟨b, off + j, none⟩) hbl).trans (hcell j hj)⟩
theorem Tryz.own : ownKnob Tryz.prog.godebug = none := by kernel_rfl
theorem Tryz.laidOut : laidOutB Tryz.prog = true := by kernel_rfl
/-- an argument that is a slice of integers: nil, or a row of cells -/
def IsRow (k : IntKind) (w : World) (a : Option Addr) (len cap : Nat) (zs : List Int) : Prop :=
  (a = none ∧ len = 0 ∧ cap = 0 ∧ zs = []) ∨
  ∃ x, a = some x ∧ len ≤ cap ∧ cap ≤ maxLen ∧ zs.length = cap ∧ (∀ i, i < zs.length → w.cell? (x.add i) = some (.int k (zs.getD i 0))) ∧ ∀ n ∈ zs, (Lit.int k n).wf = true
theorem wf_u8 {n : Int} (h : (Lit.int .u8 n).wf = true) : 0 ≤ n ∧ n < 256 := by
  have := bounds_u8 h
  omega
theorem lt_of_cell {w : World} {p : Addr} {v : Value} (h : w.cell? p = some v) : p.block < w.heap.size := by
  rcases Nat.lt_or_ge p.block w.heap.size with h0 | h0
  · exact h0
  · unfold World.cell? at h
    rw [Array.getElem?_eq_none h0] at h
    simp at h
theorem byt_of_row {w : World} {a : Option Addr} {len cap : Nat} {zs : List Int} (h : IsRow .u8 w a len cap zs) : ∃ l, Byt w a len cap l := by
  rcases h with ⟨rfl, rfl, rfl, rfl⟩ | ⟨x, rfl, hl, hm, hz, hc, hw⟩
  · exact ⟨[], rfl, by simp, Nat.le_refl _, Nat.zero_le _, fun h => by omega⟩
  · refine ⟨(zs.take len).map Int.toNat, by simp; omega, ?_, hl, hm, fun h0 => ?_⟩
    · intro n hn
      rw [List.mem_map] at hn
      obtain ⟨z, hz1, rfl⟩ := hn
      have := wf_u8 (hw z (List.mem_of_mem_take hz1))
      omega
    · have h1 := hc 0 (by omega)
      obtain ⟨b, off, spot⟩ := x
      have hspot : spot = none := by simpa [Addr.add] using World.cell?_spot h1
      subst hspot
      have e : ∀ i, (⟨b, off, none⟩ : Addr).add i = ⟨b, off + i, none⟩ := fun i => by cases i <;> rfl
      refine ⟨b, off, rfl, by have := lt_of_cell h1; rw [e] at this; exact this, fun j hj => ?_⟩
      have h2 := hc j (by omega)
      rw [e] at h2
      rw [h2]
      have hjz : j < zs.length := by omega
      have h3 := wf_u8 (hw _ (List.getElem_mem hjz))
      rw [List.getD_eq_getElem?_getD, List.getD_eq_getElem?_getD, List.getElem?_map, List.getElem?_take_of_lt hj, List.getElem?_eq_getElem hjz]
      simp only [Option.map_some, Option.getD_some]
      rw [Int.toNat_of_nonneg h3.1]
def U8 (x : Nat) : Value := .int .u8 (x : Nat)
/-- make with a length and a capacity -/
theorem wpList_make_lc {P : Program} (w : World) {ops : Array Oper} {rest : List Oper} {o : Oper} {a : Act} {Q : Exit → Act → World → Prop}
    (hg : o.guard = none) (l c : Operand) (t : TypeId) (hop : o.op = Op.makeSlice t l c)
    (e : TypeId) (i : TypeInfo) (z : Value) (h1 : P.underlying t = some (.slice e)) (h2 : P.info? e = some i) (h3 : i.zero = some z) (h4 : i.size = 1)
    (kl kc : IntKind) (L C : Int) (n m : Nat) (hl : a.eval l = .int kl L) (hc : a.eval c = .int kc C) (hL : L = (n : Int)) (hC : C = (m : Int)) (hnm : n ≤ m) (b2 : i.bytes * m ≤ 281474976710656) (b3 : m ≤ maxLen)
    (hK : ∀ w', Hid (w'.heap[w.heap.size]? = some (.cells (madeCells z.cells m) e (0, 0))) → Below w.heap.size w w' → wpList P ops Q rest (a.put o.dst (.slice (some ⟨w.heap.size, 0, none⟩) n m)) w') :
    wpList P ops Q (o :: rest) a w := by
  refine wpList_plain hg fun K hK' => ?_
  have hm : (m : Int) ≤ 9223372036854775807 := by simp [maxLen] at b3; omega
  have hb : (i.bytes : Int) * (m : Int) ≤ 281474976710656 := by
    have h : ((i.bytes * m : Nat) : Int) ≤ 281474976710656 := by omega
    rwa [Int.natCast_mul] at h
  have hrun := run_make (P := P) w t e i z h1 h2 h3 kl kc (n : Int) (m : Int) (by omega) (by omega) hb hm
  simp only [Int.toNat_natCast, h4, Nat.mul_one] at hrun
  subst hL
  subst hC
  unfold Oper.wp
  simp [execOp, hop, hl, hc, hrun, Result.andThen]
  exact hK' _ _ (hK _ (Lib.hid (heap_alloc_new w _)) ((Below.refl _ _).alloc (Nat.le_refl _) _))
theorem info5size : (Tryz.prog.info? 5).map (·.size) = some 1 := by kernel_rfl
theorem map_getD (l : List Nat) (j : Nat) (h : j < l.length) : (l.map U8)[j]? = some (U8 (l.getD j 0)) := by
  rw [List.getElem?_map, List.getElem?_eq_getElem h, List.getD_eq_getElem?_getD, List.getElem?_eq_getElem h]; rfl
theorem addr_add (b off j : Nat) : (⟨b, off, none⟩ : Addr).add j = ⟨b, off + j, none⟩ := by cases j <;> rfl
def str (l : List Nat) : ByteArray := strOfNums (l.map Int.ofNat)
theorem str_data (l : List Nat) : (str l).data.toList = l.map UInt8.ofNat := by
  unfold str
  rw [strOfNums_data, List.map_map]; rfl
theorem str_toList (l : List Nat) : (str l).toList = l.map UInt8.ofNat := by
  rw [← str_data]
  exact ByteArray.toList_eq _
theorem ofNat_inj {a b : Nat} (ha : a < 256) (hb : b < 256) (h : UInt8.ofNat a = UInt8.ofNat b) : a = b := by
  have := congrArg UInt8.toNat h
  simp at this
  omega
theorem map_inj : ∀ (a b : List Nat), (∀ x ∈ a, x < 256) → (∀ x ∈ b, x < 256) → a.map UInt8.ofNat = b.map UInt8.ofNat → a = b := by
  intro a
  induction a with
  | nil => intro b _ _ h; cases b with
    | nil => rfl
    | cons y b => simp at h
  | cons x a ih =>
    intro b ha hb h
    cases b with
    | nil => simp at h
    | cons y b =>
      simp only [List.map_cons, List.cons.injEq] at h
      rw [ofNat_inj (ha x (by simp)) (hb y (by simp)) h.1, ih b (fun z hz => ha z (by simp [hz])) (fun z hz => hb z (by simp [hz])) h.2]
theorem str_eq (a b : List Nat) (ha : ∀ x ∈ a, x < 256) (hb : ∀ x ∈ b, x < 256) : ((str a).toList == (str b).toList) = decide (a = b) := by
  rw [str_toList, str_toList, Bool.eq_iff_iff]
  simp only [beq_iff_eq, decide_eq_true_eq]
  exact ⟨map_inj a b ha hb, fun h => by rw [h]⟩
theorem conv_byt {w : World} {A : Option Addr} {n cap : Nat} {l : List Nat} (h : Byt w A n cap l) : (convert 83 9 (.slice A n cap)).run Tryz.prog w = .ok (.string (str l)) w := by
  obtain ⟨hl, hx, hn, hcap, hc⟩ := h
  by_cases h0 : n = 0
  · have e : l = [] := List.eq_nil_of_length_eq_zero (by omega)
    subst e
    subst h0
    cases A with
    | none => exact run_convert_bytes_nil w 83 5 Tryz.underlying83 Tryz.underlying5 0 cap 9 Tryz.underlying9
    | some ad =>
      obtain ⟨b, off, sp⟩ := ad
      rw [run_convert_bytes_string w 83 9 5 _ 0 cap Tryz.underlying83 Tryz.underlying5 Tryz.underlying9, run_bytesToString w _ 0 cap [] (by
        have := run_loadCells_list (P := Tryz.prog) w ⟨b, off, sp⟩ [] (fun j v hj => by simp at hj)
        simpa using this)]
      rfl
  · obtain ⟨b, off, rfl, _, hcell⟩ := hc (by omega)
    refine run_convert_bytes_arg w 83 5 Tryz.underlying83 Tryz.underlying5 b off n cap (l.map Int.ofNat) (by rw [List.length_map]; exact hl) (fun i hi => ?_) 9 Tryz.underlying9
    rw [hcell i hi]
    congr 2
    rw [List.getD_eq_getElem?_getD, List.getD_eq_getElem?_getD, List.getElem?_map, List.getElem?_eq_getElem (by omega)]
    rfl
theorem Byt.kept {w w' : World} {A : Option Addr} {n cap : Nat} {l : List Nat} (h : Byt w A n cap l) (hb : Below w.heap.size w w') : Byt w' A n cap l := Byt.below (B := 0) h hb
theorem Byt.drewN {w : World} {A : Option Addr} {n cap : Nat} {l : List Nat} (h : Byt w A n cap l) (k : Nat) : Byt (w.drewN k) A n cap l := h
theorem byt_of_blk {w : World} {b n : Nat} {l : List Nat} (h : Blk w b 5 (l.map U8).toArray) (hl : l.length = n) (hx : ∀ x ∈ l, x < 256) (hm : n ≤ maxLen) : Byt w (some ⟨b, 0, none⟩) n n l := by
  refine ⟨hl, hx, Nat.le_refl _, hm, fun _ => ⟨b, 0, rfl, h.lt, fun j hj => ?_⟩⟩
  rw [Nat.zero_add, h.cell j, List.getElem?_toArray, map_getD l j (by omega)]; rfl
theorem Fr.undrew {S : Nat → Prop} {w w' : World} (h : Fr S w.drew w') : Fr S w w' := ⟨h.os, h.tape, h.output, h.size, h.block⟩
theorem Fr.undrewN {S : Nat → Prop} {w w' : World} {k : Nat} (h : Fr S (w.drewN k) w') : Fr S w w' := ⟨h.os, h.tape, h.output, h.size, h.block⟩
theorem fr_setRow (w : World) (g : Nat) (cs : Array Value) : Fr (· = g) w (w.setRow g cs) := ⟨rfl, rfl, rfl, by simp [World.setRow], fun k hk hs => setRow_other w g k cs hs⟩
/-- copy: what is known of the world behind it is that the row alone is written -/
theorem wpList_copy_fr {P : Program} {w : World} {ops : Array Oper} {rest : List Oper} {o : Oper} {a : Act} {Q : Exit → Act → World → Prop} (hgd : o.guard = none) (d s : Operand) (dT sT : TypeId)
    (ho : o.op = .call { callee := .builtin .copy, args := #[d, s], argTypes := #[dT, sT] }) (elem : TypeId) (hu : P.underlying dT = some (.slice elem)) (hsz : (P.info? elem).map (·.size) = some 1)
    (dp sp : Option Addr) (dLen dCap sLen sCap : Nat) (hd : a.eval d = .slice dp dLen dCap) (hs : a.eval s = .slice sp sLen sCap)
    (g off : Nat) (cur : List Value) (t : TypeId) (hg : Blk w g t cur.toArray) (cs : List Value) (hn : cs.length = Nat.min sLen dLen)
    (hpos : 0 < cs.length → dp = some ⟨g, off, none⟩ ∧ ∃ ad, sp = some ad ∧ ∀ j v, cs[j]? = some v → w.cell? (ad.add j) = some v)
    (hfit : off + cs.length ≤ cur.length) (h1 : ∀ v ∈ cs, v.oneCell' = true)
    (h : ∀ w', Hid (Blk w' g t (splice cur off cs).toArray) → Fr (· = g) w w' → wpList P ops Q rest (a.put o.dst (goInt cs.length)) w') :
    wpList P ops Q (o :: rest) a w := by
  by_cases h0 : cs.length = 0
  · obtain rfl : cs = [] := List.eq_nil_of_length_eq_zero h0
    refine wpList_copy_nothing hgd d s dT sT ho elem hu hsz dp sp dLen dCap sLen sCap hd hs (by simpa using hn.symm) ?_
    exact h w (show _ = _ by simpa [splice] using hg.row) (Fr.refl _ w)
  · obtain ⟨rfl, ad, rfl, hsrc⟩ := hpos (by omega)
    refine wpList_copy_own hgd d s dT sT ho elem hu hsz g off dLen dCap ad sLen sCap hd hs cur.toArray t hg.row cs hn hsrc (by simpa using hfit) h1 ?_
    exact h _ (show _ = _ by simpa [splice] using setRow_heap w g _ _ t _ hg.row) (fr_setRow w g _)
theorem splice_all {cur X : List Value} (h : X.length = cur.length) : splice cur 0 X = X := by
  simp only [splice, List.take_zero, List.nil_append]
  rw [List.drop_eq_nil_of_le (by omega), List.append_nil]
theorem u8_one (l : List Nat) : ∀ v ∈ l.map U8, v.oneCell' = true := by
  intro v hv
  rw [List.mem_map] at hv
  obtain ⟨x, _, rfl⟩ := hv
  rfl
/-- the cells that bytes are read from -/
theorem Byt.src {w : World} {A : Option Addr} {n cap : Nat} {l : List Nat} (h : Byt w A n cap l) (h0 : 0 < n) : ∃ ad, A = some ad ∧ ∀ j v, (l.map U8)[j]? = some v → w.cell? (ad.add j) = some v := by
  obtain ⟨b, off, rfl, hlt, hcell⟩ := h.2.2.2.2 h0
  refine ⟨_, rfl, fun j v hv => ?_⟩
  have hj : j < l.length := by
    have := (List.getElem?_eq_some_iff.1 hv).1
    rw [List.length_map] at this; exact this
  rw [map_getD l j hj] at hv
  rw [addr_add, hcell j (by have := h.1; omega)]
  exact hv
theorem Blk.src {w : World} {g : Nat} {t : TypeId} {X : List Value} (h : Blk w g t X.toArray) : ∀ j v, X[j]? = some v → w.cell? ((⟨g, 0, none⟩ : Addr).add j) = some v := fun j v hv => by
  rw [addr_add, Nat.zero_add, h.cell j, List.getElem?_toArray]
  exact hv
end Go.Proofs.YtahbnhhdpcieiaaGreatDoor
