/-
  row.info.
-/
import Derived.Test.YtggfaalodojjkaaGreatDoorOOd
import Derived.Deep.RegionHeld3
import Derived.Laws.Tables
import Derived.Laws.Rows
import Derived.Laws.ResultCell
import Derived.Laws.CopyOwn
import Derived.OwnWalk
import Derived.Outline
namespace Go.Proofs.YtggfaalodojjkaaGreatDoor
open Go.RowKit
set_option linter.unusedVariables false
set_option linter.unusedSimpArgs false
theorem lt_of_cell {w : World} {p : Addr} {v : Value} (h : w.cell? p = some v) : p.block < w.heap.size := by
  rcases Nat.lt_or_ge p.block w.heap.size with h0 | h0
  · exact h0
  · unfold World.cell? at h
    rw [Array.getElem?_eq_none h0] at h
    simp at h
/-- the library's table of blanks lies as its text lays it -/
def Tb (W : World) : Prop := ∀ c : Nat, c < 256 → W.cell? ⟨0, c, none⟩ = some (.int .u8 (if Lib.isSp (UInt8.ofNat c) then 1 else 0))
theorem Tb.size {w : World} (h : Tb w) : 0 < w.heap.size := lt_of_cell (h 0 (by decide))
theorem Tb.below {w w' : World} (h : Tb w) {B : Nat} (hb : Below B w w') (hB : 0 < B) : Tb w' := fun i hi => by
  rw [hb.cell (p := ⟨0, i, none⟩) hB]; exact h i hi
def WS (l : List UInt8) : List Value := (Lib.fields l).map fun l => Value.string ⟨l.toArray⟩
theorem Fld_ok (l : List UInt8) (hl : l.length < 4294967281) (ha : ∀ x ∈ l, x.toNat < 128) (w : World) (hT : Tb w) :
    Calls Tryz.prog 80 #[.string ⟨l.toArray⟩] w fun e w' => e = .returned (.slice (some ⟨w.heap.size, 0, none⟩) (WS l).length (WS l).length) ∧ w.alloc (.cells (WS l).toArray 9) = w' := by
  refine (Any.strings_Fields_core Tryz.lays157 (by kernel_rfl) ⟨l.toArray⟩ w (by simpa [ByteArray.size] using hl) (fun j b h => ha b (List.mem_of_getElem? h)) hT).mono ?_
  rintro e w' ⟨rfl, rfl⟩
  refine ⟨?_, rfl⟩
  show Ending.returned (.slice (some ⟨w.heap.size, 0, none⟩) _ _) = _
  unfold WS
  rw [List.length_map]
def Z57 : Array Value := #[.int .i64 0, .string ⟨#[]⟩, .int .i64 0, .slice none 0 0, .slice none 0 0]
/-- a row's cells lie at an address -/
def RowAt (w : World) (g o : Nat) (r : Rw) : Prop := ∀ j, j < 10 → w.cell? ⟨g, o + j, none⟩ = r.cells[j]?
theorem RowAt.below {w w' : World} {g o : Nat} {r : Rw} (h : RowAt w g o r) {B : Nat} (hb : Below B w w') (hg : g < B) : RowAt w' g o r := fun j hj => by
  rw [hb.cell (p := ⟨g, o + j, none⟩) hg]; exact h j hj
structure Rw.good (r : Rw) : Prop where
  first : r.first < 100000
  len : r.names.length < 1000
  ascii : ∀ x ∈ r.names, x.toNat < 128
  t3 : r.takes.length ≤ 3
  tx : ∀ x ∈ r.takes, 0 < x ∧ x < 256
  g3 : r.gives.length ≤ 3
  gx : ∀ x ∈ r.gives, 0 < x ∧ x < 256
  form : r.form < 100
  head : r.head.length < 100
  word : ∀ l ∈ Lib.fields r.names, l.length < 1000
  words : (Lib.fields r.names).length < 100
theorem own_slice {base E size : Nat} {w : World} {v : Value} {n : Nat} {xs : List Value} (h : w.ownsRow base E size v n xs) : ∃ A cp, v = .slice A n cp := by
  rcases h.2 with ⟨e, h0⟩ | ⟨g, cap, cur, e, _⟩
  · subst h0; exact ⟨_, _, e⟩
  · exact ⟨_, _, e⟩
theorem own_base {base b2 E size : Nat} {w : World} {v : Value} {n : Nat} {xs : List Value} (h : w.ownsRow base E size v n xs) (hb : b2 ≤ base) : w.ownsRow b2 E size v n xs :=
  ⟨h.1, h.2.imp id fun ⟨g, cap, cur, e, h1, h2⟩ => ⟨g, cap, cur, e, Nat.le_trans hb h1, h2⟩⟩
theorem own_kept {base E size : Nat} {w w' : World} {v : Value} {n : Nat} {xs : List Value} (h : w.ownsRow base E size v n xs) (hb : Below w.heap.size w w') : w'.ownsRow base E size v n xs :=
  ⟨h.1, h.2.imp id fun ⟨g, cap, cur, e, h1, h2, h3⟩ => ⟨g, cap, cur, e, h1, (hb.block g (Blk.lt (t := E) (cs := cur) h2)).trans h2, h3⟩⟩
theorem own_setRow {base E size g : Nat} {w : World} {cs : Array Value} {v : Value} {n : Nat} {xs : List Value} (h : w.ownsRow base E size v n xs) (hg : g < base) : (w.setRow g cs).ownsRow base E size v n xs :=
  ⟨h.1, h.2.imp id fun ⟨g2, cap, cur, e, h1, h2, h3⟩ => ⟨g2, cap, cur, e, h1, (setRow_other w g g2 cs (by omega)).trans h2, h3⟩⟩
theorem res_cell {fn : Func} {P : Program} {p u : Tmp} {ty : TypeId} (h : fn.results = #[.cell p ty, .tmp u]) (tmps : Array Value) (w : World) (g : Nat) (t : TypeId) (cs : Array Value) (d : TypeDesc)
    (hp : tmps.getD p undef = .pointer (some ⟨g, 0, none⟩)) (hg : w.heap[g]? = some (.cells cs t (0, 0))) (hu : P.underlying ty = some d) (hd : (match d with | .struct _ | .array _ _ => true | _ => false) = true) (hi : (P.info? ty).map (·.size) = some cs.size) :
    (results fn tmps).run P w = .ok (.tuple #[.agg cs, tmps.getD u undef]) w := by
  rw [results_cell_tmp h, hp]
  simp [asAddr, run_loadVar_row w g t ty cs (0, 0) d hg hu hd hi, Result.andThen]
/-- a name: the row's head, and its word -/
def wordB (r : Rw) (i : Nat) : ByteArray := match (Lib.fields r.names)[i]? with | some l => ⟨l.toArray⟩ | none => ⟨#[]⟩
def nmS (r : Rw) (i : Nat) : ByteArray := ⟨r.head.toArray⟩ ++ wordB r i
def IPost (r : Rw) (i : Nat) (w : World) (e : Ending) (w' : World) : Prop := ∃ At ct Ag cg, e = .returned (.tuple #[.agg #[.int .i64 ((r.first : Int) + (i : Int)), .string (nmS r i), .int .i64 ((r.form : Nat) : Int), .slice At r.takes.length ct, .slice Ag r.gives.length cg], .bool true])
  ∧ w'.ownsRow w.heap.size 113 1 (.slice At r.takes.length ct) r.takes.length (r.takes.map U8) ∧ w'.ownsRow w.heap.size 113 1 (.slice Ag r.gives.length cg) r.gives.length (r.gives.map U8) ∧ Below w.heap.size w w'

theorem zeros57 : (Tryz.prog.info? 61).map (·.size) = some 5 := by kernel_rfl
set_option maxHeartbeats 4000000 in
set_option maxRecDepth 100000 in
theorem Info_no (r : Rw) (hr : r.good) (g o i : Nat) (hi : (Lib.fields r.names).length ≤ i) (hi2 : i ≤ 9223372036854775807) (w : World) (hT : Tb w) (hat : RowAt w g o r) :
    Calls Tryz.prog 81 #[.pointer (some ⟨g, o, none⟩), .int .i64 i] w fun e w' => e = .returned (.tuple #[.agg Z57, .bool false]) ∧ Below w.heap.size w w' := by
  have hg : g < w.heap.size := by
    have h0 := hat 0 (by decide)
    exact lt_of_cell (p := ⟨g, o + 0, none⟩) h0
  have c2 : w.cell? ⟨g, o + 2, none⟩ = some (.string ⟨r.names.toArray⟩) := hat 2 (by decide)
  have HF := Lib.hid (fun W hT => Fld_ok r.names (by have := hr.len; omega) hr.ascii W hT)
  have HL : Hid ((WS r.names).length ≤ i) := Lib.hid (by unfold WS; rw [List.length_map]; exact hi)
  generalize (WS r.names) = ws at HF HL
  have HT := Lib.hid hT
  obtain ⟨n, hn⟩ : ∃ n, n = ws.length := ⟨_, rfl⟩
  rw [← hn] at HF HL
  have hle : n ≤ i := HL.out
  clear hT hat hi hn HL hr
  go_enter Tryz.func81, Tryz.ntmps81
  go_wp2_with (go_at_call 80; with_reducible refine (HF.out _ (HT.out.below ((Below.refl _ _).alloc (Nat.le_refl _) _) HT.out.size)).mono ?_; rintro e w1 ⟨rfl, rfl⟩)
  refine bodyPost_ret (v := .tuple #[.agg Z57, .bool false]) (by simp [results, Tryz.results81, go_sem, Z57]) rfl ⟨rfl, ?_⟩
  exact ((((Below.refl _ _).alloc (Nat.le_refl _) _).alloc (by simp) _))

theorem rowCells {w : World} {g o : Nat} {r : Rw} (h : RowAt w g o r) :
    w.cell? ⟨g, o, none⟩ = some (.int .i64 ((r.first : Nat) : Int)) ∧ w.cell? ⟨g, o + 1, none⟩ = some (.string ⟨r.head.toArray⟩) ∧ w.cell? ⟨g, o + 2, none⟩ = some (.string ⟨r.names.toArray⟩) ∧ w.cell? ⟨g, o + 3, none⟩ = some (.int .i64 ((r.form : Nat) : Int))
    ∧ w.cell? ⟨g, o + 4, none⟩ = some (.int .u8 ((r.takes.getD 0 0 : Nat) : Int)) ∧ w.cell? ⟨g, o + 5, none⟩ = some (.int .u8 ((r.takes.getD 1 0 : Nat) : Int)) ∧ w.cell? ⟨g, o + 6, none⟩ = some (.int .u8 ((r.takes.getD 2 0 : Nat) : Int))
    ∧ w.cell? ⟨g, o + 7, none⟩ = some (.int .u8 ((r.gives.getD 0 0 : Nat) : Int)) ∧ w.cell? ⟨g, o + 8, none⟩ = some (.int .u8 ((r.gives.getD 1 0 : Nat) : Int)) ∧ w.cell? ⟨g, o + 9, none⟩ = some (.int .u8 ((r.gives.getD 2 0 : Nat) : Int)) :=
  ⟨h 0 (by decide), h 1 (by decide), h 2 (by decide), h 3 (by decide), h 4 (by decide), h 5 (by decide), h 6 (by decide), h 7 (by decide), h 8 (by decide), h 9 (by decide)⟩
set_option maxHeartbeats 8000000 in
set_option maxRecDepth 100000 in
theorem Info_ok (r : Rw) (hr : r.good) (g o i : Nat) (hi : i < (Lib.fields r.names).length) (w : World) (hT : Tb w) (hat : RowAt w g o r) :
    Calls Tryz.prog 81 #[.pointer (some ⟨g, o, none⟩), .int .i64 i] w (IPost r i w) := by
  have hi2 : i < 1000000 := by have := hr.words; omega
  have hg : g < w.heap.size := by
    have h0 := hat 0 (by decide)
    exact lt_of_cell (p := ⟨g, o + 0, none⟩) h0
  have c2 : w.cell? ⟨g, o + 2, none⟩ = some (.string ⟨r.names.toArray⟩) := hat 2 (by decide)
  have HF := Lib.hid (fun W hT => Fld_ok r.names (by have := hr.len; omega) hr.ascii W hT)
  obtain ⟨t0, t1, t2, u0, u1, u2, HE⟩ : ∃ t0 t1 t2 u0 u1 u2 : Nat, Hid (t0 = r.takes.getD 0 0 ∧ t1 = r.takes.getD 1 0 ∧ t2 = r.takes.getD 2 0 ∧ u0 = r.gives.getD 0 0 ∧ u1 = r.gives.getD 1 0 ∧ u2 = r.gives.getD 2 0) := ⟨_, _, _, _, _, _, Lib.hid ⟨rfl, rfl, rfl, rfl, rfl, rfl⟩⟩
  have HLt : Hid (∀ W, Calls Tryz.prog 115 #[.agg #[.int .u8 (t0 : Int), .int .u8 (t1 : Int), .int .u8 (t2 : Int)]] W (LPost r.takes W)) := Lib.hid (fun W => by rw [HE.out.1, HE.out.2.1, HE.out.2.2.1]; exact List_ok r.takes hr.t3 hr.tx W)
  have HLg : Hid (∀ W, Calls Tryz.prog 115 #[.agg #[.int .u8 (u0 : Int), .int .u8 (u1 : Int), .int .u8 (u2 : Int)]] W (LPost r.gives W)) := Lib.hid (fun W => by rw [HE.out.2.2.2.1, HE.out.2.2.2.2.1, HE.out.2.2.2.2.2]; exact List_ok r.gives hr.g3 hr.gx W)
  have hL : i < (WS r.names).length := by unfold WS; rw [List.length_map]; exact hi
  obtain ⟨s, hs, hse⟩ : ∃ s, (WS r.names)[i]? = some (.string s) ∧ wordB r i = s := by
    unfold WS wordB
    rw [List.getElem?_map, List.getElem?_eq_getElem hi]
    exact ⟨_, rfl, rfl⟩
  have HNL : Hid (¬ 9223372036854775807 < r.head.length + s.size) := Lib.hid (by
    have h1 := hr.head
    have h2 := hr.word _ (List.getElem_mem hi)
    unfold wordB at hse
    rw [List.getElem?_eq_getElem hi] at hse
    have h3 : s.size = ((Lib.fields r.names)[i]).length := by rw [← hse]; simp [ByteArray.size]
    omega)
  have HIV : Hid (nmS r i = ⟨r.head.toArray⟩ ++ s) := Lib.hid (by unfold nmS; rw [hse])
  clear hse
  generalize (WS r.names) = ws at HF hL hs
  have HT := Lib.hid hT
  have HAT := Lib.hid hat
  have hf1 := hr.first
  obtain ⟨n, hn⟩ : ∃ n, n = ws.length := ⟨_, rfl⟩
  rw [← hn] at HF hL
  have HS : Hid (ws.toArray[i]? = some (.string s)) := Lib.hid (by simpa using hs)
  clear hT hat hi hn hs
  go_enter Tryz.func81, Tryz.ntmps81
  go_wp2_with (go_at_call 80; with_reducible refine (HF.out _ (HT.out.below ((Below.refl _ _).alloc (Nat.le_refl _) _) HT.out.size)).mono ?_; rintro e w1 ⟨rfl, rfl⟩)
  obtain ⟨w2, hw2⟩ : ∃ w2, w2 = ((w.alloc (.cells #[.int .i64 0, .string ⟨#[]⟩, .int .i64 0, .slice none 0 0, .slice none 0 0] 61)).alloc (.cells ws.toArray 9)) := ⟨_, rfl⟩
  have HBW : Hid (Below w.heap.size w w2) := Lib.hid (by rw [hw2]; exact ((Below.refl _ _).alloc (Nat.le_refl _) _).alloc (by simp) _)
  have HBR : Hid (Blk w2 w.heap.size 61 Z57) := Lib.hid (by rw [hw2]; exact (Blk.new w 61 Z57).alloc _)
  have HBN : Hid (Blk w2 (w.heap.size + 1) 9 ws.toArray) := Lib.hid (by rw [hw2]; have := Blk.new (w.alloc (.cells #[.int .i64 0, .string ⟨#[]⟩, .int .i64 0, .slice none 0 0, .slice none 0 0] 61)) 9 ws.toArray; simpa using this)
  have HSZ : Hid (w2.heap.size = w.heap.size + 2) := Lib.hid (by rw [hw2]; simp)
  try simp only [World.size_alloc]
  rw [← hw2]
  clear hw2
  have HB0 : Hid (Below w2.heap.size w2 w2.drew) := Lib.hid (((Fr.refl (fun _ => False) w2).drewN 1).below (Below.refl _ _) (Nat.le_refl _) (fun q e => e.elim))
  obtain ⟨S, HSF⟩ : ∃ S : World → Prop, Hid (∀ W, S W ↔ (W.cell? ⟨g, o, none⟩ = some (.int .i64 ((r.first : Nat) : Int)) ∧ W.cell? ⟨g, o + 1, none⟩ = some (.string ⟨r.head.toArray⟩) ∧ W.cell? ⟨g, o + 2, none⟩ = some (.string ⟨r.names.toArray⟩) ∧ W.cell? ⟨g, o + 3, none⟩ = some (.int .i64 ((r.form : Nat) : Int))
    ∧ W.cell? ⟨g, o + 4, none⟩ = some (.int .u8 (t0 : Int)) ∧ W.cell? ⟨g, o + 5, none⟩ = some (.int .u8 (t1 : Int)) ∧ W.cell? ⟨g, o + 6, none⟩ = some (.int .u8 (t2 : Int))
    ∧ W.cell? ⟨g, o + 7, none⟩ = some (.int .u8 (u0 : Int)) ∧ W.cell? ⟨g, o + 8, none⟩ = some (.int .u8 (u1 : Int)) ∧ W.cell? ⟨g, o + 9, none⟩ = some (.int .u8 (u2 : Int)) ∧ W.cell? ⟨w.heap.size + 1, i, none⟩ = some (.string s))) := ⟨_, Lib.hid (fun _ => Iff.rfl)⟩
  have HC : Hid (∀ W, Below w2.heap.size w2 W → S W) := Lib.hid (fun W hb => by
    have hA := (HAT.out.below HBW.out hg).below hb (Nat.lt_of_lt_of_le hg HBW.out.size)
    have h0 := rowCells hA
    rw [← HE.out.1, ← HE.out.2.1, ← HE.out.2.2.1, ← HE.out.2.2.2.1, ← HE.out.2.2.2.2.1, ← HE.out.2.2.2.2.2] at h0
    have h1 := (HBN.out.below hb HBN.out.lt).cell i
    rw [HS.out] at h1
    exact (HSF.out W).2 ⟨h0.1, h0.2.1, h0.2.2.1, h0.2.2.2.1, h0.2.2.2.2.1, h0.2.2.2.2.2.1, h0.2.2.2.2.2.2.1, h0.2.2.2.2.2.2.2.1, h0.2.2.2.2.2.2.2.2.1, h0.2.2.2.2.2.2.2.2.2, h1⟩)
  clear c2
  refine wp_region_held_drew (S := S) (by kernel_rfl) (HC.out _ HB0.out) (fun hHeld => ?_)
  refine wpAnyH_take (i := 0) (oi := ?oi_1) (v := ?_) ?hi_1 (by kernel_rfl) ?hf_1 (by kernel_rfl) ?hQ_1 ?hy_1 (by assumption) ?_
  case hi_1 => simp only [List.getElem?_toArray, List.getElem?_cons_zero, List.getElem?_cons_succ]; rfl
  case hf_1 => kernel_rfl
  case hQ_1 => exact fun _ _ _ h => h
  case hy_1 =>
    refine Or.inl ⟨by rfl, ?_⟩
    intro W hSw
    go_simp
    try with_reducible rfl
  try simp only [Act.put, List.setIfInBounds_toArray, List.set_cons_zero, List.set_cons_succ]
  refine wpAnyH_take (i := 1) (oi := ?oi_2) (v := ?_) ?hi_2 (by kernel_rfl) ?hf_2 (by kernel_rfl) ?hQ_2 ?hy_2 (by assumption) ?_
  case hi_2 => simp only [List.getElem?_toArray, List.getElem?_cons_zero, List.getElem?_cons_succ]; rfl
  case hf_2 => kernel_rfl
  case hQ_2 => exact fun _ _ _ h => h
  case hy_2 =>
    refine Or.inl ⟨by rfl, ?_⟩
    intro W hSw
    go_simp
    try with_reducible rfl
  try simp only [Act.put, List.setIfInBounds_toArray, List.set_cons_zero, List.set_cons_succ]
  refine wpAnyH_take (i := 2) (oi := ?oi_3) (v := ?_) ?hi_3 (by kernel_rfl) ?hf_3 (by kernel_rfl) ?hQ_3 ?hy_3 (by assumption) ?_
  case hi_3 => simp only [List.getElem?_toArray, List.getElem?_cons_zero, List.getElem?_cons_succ]; rfl
  case hf_3 => kernel_rfl
  case hQ_3 => exact fun _ _ _ h => h
  case hy_3 =>
    refine Or.inl ⟨by rfl, ?_⟩
    intro W hSw
    go_simp
    try with_reducible rfl
  try simp only [Act.put, List.setIfInBounds_toArray, List.set_cons_zero, List.set_cons_succ]
  refine wpAnyH_take (i := 3) (oi := ?oi_4) (v := ?_) ?hi_4 (by kernel_rfl) ?hf_4 (by kernel_rfl) ?hQ_4 ?hy_4 (by assumption) ?_
  case hi_4 => simp only [List.getElem?_toArray, List.getElem?_cons_zero, List.getElem?_cons_succ]; rfl
  case hf_4 => kernel_rfl
  case hQ_4 => exact fun _ _ _ h => h
  case hy_4 =>
    refine Or.inl ⟨by rfl, ?_⟩
    intro W hSw
    obtain ⟨q0, q1, q2, q3, q4, q5, q6, q7, q8, q9, qa⟩ := (HSF.out W).1 hSw
    go_simp
    try with_reducible rfl
  try simp only [Act.put, List.setIfInBounds_toArray, List.set_cons_zero, List.set_cons_succ]
  refine wpAnyH_take (i := 4) (oi := ?oi_5) (v := ?_) ?hi_5 (by kernel_rfl) ?hf_5 (by kernel_rfl) ?hQ_5 ?hy_5 (by assumption) ?_
  case hi_5 => simp only [List.getElem?_toArray, List.getElem?_cons_zero, List.getElem?_cons_succ]; rfl
  case hf_5 => kernel_rfl
  case hQ_5 => exact fun _ _ _ h => h
  case hy_5 =>
    refine Or.inl ⟨by rfl, ?_⟩
    intro W hSw
    go_simp
    try with_reducible rfl
  try simp only [Act.put, List.setIfInBounds_toArray, List.set_cons_zero, List.set_cons_succ]
  refine wpAnyH_take (i := 5) (oi := ?oi_6) (v := ?_) ?hi_6 (by kernel_rfl) ?hf_6 (by kernel_rfl) ?hQ_6 ?hy_6 (by assumption) ?_
  case hi_6 => simp only [List.getElem?_toArray, List.getElem?_cons_zero, List.getElem?_cons_succ]; rfl
  case hf_6 => kernel_rfl
  case hQ_6 => exact fun _ _ _ h => h
  case hy_6 =>
    refine Or.inl ⟨by rfl, ?_⟩
    intro W hSw
    go_simp
    try with_reducible rfl
  try simp only [Act.put, List.setIfInBounds_toArray, List.set_cons_zero, List.set_cons_succ]
  refine wpAnyH_take (i := 6) (oi := ?oi_7) (v := ?_) ?hi_7 (by kernel_rfl) ?hf_7 (by kernel_rfl) ?hQ_7 ?hy_7 (by assumption) ?_
  case hi_7 => simp only [List.getElem?_toArray, List.getElem?_cons_zero, List.getElem?_cons_succ]; rfl
  case hf_7 => kernel_rfl
  case hQ_7 => exact fun _ _ _ h => h
  case hy_7 =>
    refine Or.inl ⟨by rfl, ?_⟩
    intro W hSw
    go_simp
    try with_reducible rfl
  try simp only [Act.put, List.setIfInBounds_toArray, List.set_cons_zero, List.set_cons_succ]
  refine wpAnyH_take (i := 7) (oi := ?oi_8) (v := ?_) ?hi_8 (by kernel_rfl) ?hf_8 (by kernel_rfl) ?hQ_8 ?hy_8 (by assumption) ?_
  case hi_8 => simp only [List.getElem?_toArray, List.getElem?_cons_zero, List.getElem?_cons_succ]; rfl
  case hf_8 => kernel_rfl
  case hQ_8 => exact fun _ _ _ h => h
  case hy_8 =>
    refine Or.inl ⟨by rfl, ?_⟩
    intro W hSw
    go_simp
    try with_reducible rfl
  try simp only [Act.put, List.setIfInBounds_toArray, List.set_cons_zero, List.set_cons_succ]
  refine wpAnyH_take (i := 8) (oi := ?oi_9) (v := ?_) ?hi_9 (by kernel_rfl) ?hf_9 (by kernel_rfl) ?hQ_9 ?hy_9 (by assumption) ?_
  case hi_9 => simp only [List.getElem?_toArray, List.getElem?_cons_zero, List.getElem?_cons_succ]; rfl
  case hf_9 => kernel_rfl
  case hQ_9 => exact fun _ _ _ h => h
  case hy_9 =>
    refine Or.inl ⟨by rfl, ?_⟩
    intro W hSw
    go_simp
    try with_reducible rfl
  try simp only [Act.put, List.setIfInBounds_toArray, List.set_cons_zero, List.set_cons_succ]
  refine wpAnyH_take (i := 9) (oi := ?oi_10) (v := ?_) ?hi_10 (by kernel_rfl) ?hf_10 (by kernel_rfl) ?hQ_10 ?hy_10 (by assumption) ?_
  case hi_10 => simp only [List.getElem?_toArray, List.getElem?_cons_zero, List.getElem?_cons_succ]; rfl
  case hf_10 => kernel_rfl
  case hQ_10 => exact fun _ _ _ h => h
  case hy_10 =>
    refine Or.inl ⟨by rfl, ?_⟩
    intro W hSw
    obtain ⟨q0, q1, q2, q3, q4, q5, q6, q7, q8, q9, qa⟩ := (HSF.out W).1 hSw
    go_simp
    try with_reducible rfl
  try simp only [Act.put, List.setIfInBounds_toArray, List.set_cons_zero, List.set_cons_succ]
  refine wpAnyH_take (i := 10) (oi := ?oi_11) (v := ?_) ?hi_11 (by kernel_rfl) ?hf_11 (by kernel_rfl) ?hQ_11 ?hy_11 (by assumption) ?_
  case hi_11 => simp only [List.getElem?_toArray, List.getElem?_cons_zero, List.getElem?_cons_succ]; rfl
  case hf_11 => kernel_rfl
  case hQ_11 => exact fun _ _ _ h => h
  case hy_11 =>
    refine Or.inl ⟨by rfl, ?_⟩
    intro W hSw
    go_simp
    try with_reducible rfl
  try simp only [Act.put, List.setIfInBounds_toArray, List.set_cons_zero, List.set_cons_succ]
  refine wpAnyH_take (i := 11) (oi := ?oi_12) (v := ?_) ?hi_12 (by kernel_rfl) ?hf_12 (by kernel_rfl) ?hQ_12 ?hy_12 (by assumption) ?_
  case hi_12 => simp only [List.getElem?_toArray, List.getElem?_cons_zero, List.getElem?_cons_succ]; rfl
  case hf_12 => kernel_rfl
  case hQ_12 => exact fun _ _ _ h => h
  case hy_12 =>
    refine Or.inl ⟨by rfl, ?_⟩
    intro W hSw
    go_simp
    try with_reducible rfl
  try simp only [Act.put, List.setIfInBounds_toArray, List.set_cons_zero, List.set_cons_succ]
  refine wpAnyH_take (i := 12) (oi := ?oi_13) (v := ?_) ?hi_13 (by kernel_rfl) ?hf_13 (by kernel_rfl) ?hQ_13 ?hy_13 (by assumption) ?_
  case hi_13 => simp only [List.getElem?_toArray, List.getElem?_cons_zero, List.getElem?_cons_succ]; rfl
  case hf_13 => kernel_rfl
  case hQ_13 => exact fun _ _ _ h => h
  case hy_13 =>
    refine Or.inl ⟨by rfl, ?_⟩
    intro W hSw
    go_simp
    try with_reducible rfl
  try simp only [Act.put, List.setIfInBounds_toArray, List.set_cons_zero, List.set_cons_succ]
  refine wpAnyH_take (i := 13) (oi := ?oi_14) (v := ?_) ?hi_14 (by kernel_rfl) ?hf_14 (by kernel_rfl) ?hQ_14 ?hy_14 (by assumption) ?_
  case hi_14 => simp only [List.getElem?_toArray, List.getElem?_cons_zero, List.getElem?_cons_succ]; rfl
  case hf_14 => kernel_rfl
  case hQ_14 => exact fun _ _ _ h => h
  case hy_14 =>
    refine Or.inl ⟨by rfl, ?_⟩
    intro W hSw
    obtain ⟨q0, q1, q2, q3, q4, q5, q6, q7, q8, q9, qa⟩ := (HSF.out W).1 hSw
    go_simp
    try with_reducible rfl
  try simp only [Act.put, List.setIfInBounds_toArray, List.set_cons_zero, List.set_cons_succ]
  refine wpAnyH_take (i := 14) (oi := ?oi_15) (v := ?_) ?hi_15 (by kernel_rfl) ?hf_15 (by kernel_rfl) ?hQ_15 ?hy_15 (by assumption) ?_
  case hi_15 => simp only [List.getElem?_toArray, List.getElem?_cons_zero, List.getElem?_cons_succ]; rfl
  case hf_15 => kernel_rfl
  case hQ_15 => exact fun _ _ _ h => h
  case hy_15 =>
    refine Or.inl ⟨by rfl, ?_⟩
    intro W hSw
    have hnl := HNL.out
    go_simp
    try with_reducible rfl
  try simp only [Act.put, List.setIfInBounds_toArray, List.set_cons_zero, List.set_cons_succ]
  refine wpAnyH_take (i := 15) (oi := ?oi_16) (v := ?_) ?hi_16 (by kernel_rfl) ?hf_16 (by kernel_rfl) ?hQ_16 ?hy_16 (by assumption) ?_
  case hi_16 => simp only [List.getElem?_toArray, List.getElem?_cons_zero, List.getElem?_cons_succ]; rfl
  case hf_16 => kernel_rfl
  case hQ_16 => exact fun _ _ _ h => h
  case hy_16 =>
    refine Or.inl ⟨by rfl, ?_⟩
    intro W hSw
    go_simp
    try with_reducible rfl
  try simp only [Act.put, List.setIfInBounds_toArray, List.set_cons_zero, List.set_cons_succ]
  refine wpAnyH_take (i := 16) (oi := ?oi_17) (v := ?_) ?hi_17 (by kernel_rfl) ?hf_17 (by kernel_rfl) ?hQ_17 ?hy_17 (by assumption) ?_
  case hi_17 => simp only [List.getElem?_toArray, List.getElem?_cons_zero, List.getElem?_cons_succ]; rfl
  case hf_17 => kernel_rfl
  case hQ_17 => exact fun _ _ _ h => h
  case hy_17 =>
    refine Or.inl ⟨by rfl, ?_⟩
    intro W hSw
    go_simp
    try with_reducible rfl
  try simp only [Act.put, List.setIfInBounds_toArray, List.set_cons_zero, List.set_cons_succ]
  refine wpAnyH_take (i := 17) (oi := ?oi_18) (v := ?_) ?hi_18 (by kernel_rfl) ?hf_18 (by kernel_rfl) ?hQ_18 ?hy_18 (by assumption) ?_
  case hi_18 => simp only [List.getElem?_toArray, List.getElem?_cons_zero, List.getElem?_cons_succ]; rfl
  case hf_18 => kernel_rfl
  case hQ_18 => exact fun _ _ _ h => h
  case hy_18 =>
    refine Or.inl ⟨by rfl, ?_⟩
    intro W hSw
    go_simp
    try with_reducible rfl
  try simp only [Act.put, List.setIfInBounds_toArray, List.set_cons_zero, List.set_cons_succ]
  refine wpAnyH_take (i := 18) (oi := ?oi_19) (v := ?_) ?hi_19 (by kernel_rfl) ?hf_19 (by kernel_rfl) ?hQ_19 ?hy_19 (by assumption) ?_
  case hi_19 => simp only [List.getElem?_toArray, List.getElem?_cons_zero, List.getElem?_cons_succ]; rfl
  case hf_19 => kernel_rfl
  case hQ_19 => exact fun _ _ _ h => h
  case hy_19 =>
    refine Or.inl ⟨by rfl, ?_⟩
    intro W hSw
    obtain ⟨q0, q1, q2, q3, q4, q5, q6, q7, q8, q9, qa⟩ := (HSF.out W).1 hSw
    go_simp
    try with_reducible rfl
  try simp only [Act.put, List.setIfInBounds_toArray, List.set_cons_zero, List.set_cons_succ]
  refine wpAnyH_take (i := 19) (oi := ?oi_20) (v := ?_) ?hi_20 (by kernel_rfl) ?hf_20 (by kernel_rfl) ?hQ_20 ?hy_20 (by assumption) ?_
  case hi_20 => simp only [List.getElem?_toArray, List.getElem?_cons_zero, List.getElem?_cons_succ]; rfl
  case hf_20 => kernel_rfl
  case hQ_20 => exact fun _ _ _ h => h
  case hy_20 =>
    refine Or.inl ⟨by rfl, ?_⟩
    intro W hSw
    go_simp
    try with_reducible rfl
  try simp only [Act.put, List.setIfInBounds_toArray, List.set_cons_zero, List.set_cons_succ]
  refine wpAnyH_take (i := 20) (oi := ?oi_21) (v := ?_) ?hi_21 (by kernel_rfl) ?hf_21 (by kernel_rfl) ?hQ_21 ?hy_21 (by assumption) ?_
  case hi_21 => simp only [List.getElem?_toArray, List.getElem?_cons_zero, List.getElem?_cons_succ]; rfl
  case hf_21 => kernel_rfl
  case hQ_21 => exact fun _ _ _ h => h
  case hy_21 =>
    refine Or.inl ⟨by rfl, ?_⟩
    intro W hSw
    go_simp
    try with_reducible rfl
  try simp only [Act.put, List.setIfInBounds_toArray, List.set_cons_zero, List.set_cons_succ]
  refine wpAnyH_take (i := 21) (oi := ?oi_22) (v := ?_) ?hi_22 (by kernel_rfl) ?hf_22 (by kernel_rfl) ?hQ_22 ?hy_22 (by assumption) ?_
  case hi_22 => simp only [List.getElem?_toArray, List.getElem?_cons_zero, List.getElem?_cons_succ]; rfl
  case hf_22 => kernel_rfl
  case hQ_22 => exact fun _ _ _ h => h
  case hy_22 =>
    refine Or.inl ⟨by rfl, ?_⟩
    intro W hSw
    go_simp
    try with_reducible rfl
  try simp only [Act.put, List.setIfInBounds_toArray, List.set_cons_zero, List.set_cons_succ]
  refine wpAnyH_take (i := 22) (oi := ?oi_23) (v := ?_) ?hi_23 (by kernel_rfl) ?hf_23 (by kernel_rfl) ?hQ_23 ?hy_23 (by assumption) ?_
  case hi_23 => simp only [List.getElem?_toArray, List.getElem?_cons_zero, List.getElem?_cons_succ]; rfl
  case hf_23 => kernel_rfl
  case hQ_23 => exact fun _ _ _ h => h
  case hy_23 =>
    refine Or.inl ⟨by rfl, ?_⟩
    intro W hSw
    obtain ⟨q0, q1, q2, q3, q4, q5, q6, q7, q8, q9, qa⟩ := (HSF.out W).1 hSw
    go_simp
    try with_reducible rfl
  try simp only [Act.put, List.setIfInBounds_toArray, List.set_cons_zero, List.set_cons_succ]
  refine wpAnyH_take (i := 24) (oi := ?oi_24) (v := ?_) ?hi_24 (by kernel_rfl) ?hf_24 (by kernel_rfl) ?hQ_24 ?hy_24 (by assumption) ?_
  case hi_24 => simp only [List.getElem?_toArray, List.getElem?_cons_zero, List.getElem?_cons_succ]; rfl
  case hf_24 => kernel_rfl
  case hQ_24 => exact fun _ _ _ h => h
  case hy_24 =>
    refine Or.inl ⟨by rfl, ?_⟩
    intro W hSw
    go_simp
    try with_reducible rfl
  try simp only [Act.put, List.setIfInBounds_toArray, List.set_cons_zero, List.set_cons_succ]
  refine wpAnyH_take (i := 25) (oi := ?oi_25) (v := ?_) ?hi_25 (by kernel_rfl) ?hf_25 (by kernel_rfl) ?hQ_25 ?hy_25 (by assumption) ?_
  case hi_25 => simp only [List.getElem?_toArray, List.getElem?_cons_zero, List.getElem?_cons_succ]; rfl
  case hf_25 => kernel_rfl
  case hQ_25 => exact fun _ _ _ h => h
  case hy_25 =>
    refine Or.inl ⟨by rfl, ?_⟩
    intro W hSw
    go_simp
    try with_reducible rfl
  try simp only [Act.put, List.setIfInBounds_toArray, List.set_cons_zero, List.set_cons_succ]
  refine wpAnyH_take (i := 26) (oi := ?oi_26) (v := ?_) ?hi_26 (by kernel_rfl) ?hf_26 (by kernel_rfl) ?hQ_26 ?hy_26 (by assumption) ?_
  case hi_26 => simp only [List.getElem?_toArray, List.getElem?_cons_zero, List.getElem?_cons_succ]; rfl
  case hf_26 => kernel_rfl
  case hQ_26 => exact fun _ _ _ h => h
  case hy_26 =>
    refine Or.inl ⟨by rfl, ?_⟩
    intro W hSw
    go_simp
    try with_reducible rfl
  try simp only [Act.put, List.setIfInBounds_toArray, List.set_cons_zero, List.set_cons_succ]
  refine wpAnyH_take (i := 27) (oi := ?oi_27) (v := ?_) ?hi_27 (by kernel_rfl) ?hf_27 (by kernel_rfl) ?hQ_27 ?hy_27 (by assumption) ?_
  case hi_27 => simp only [List.getElem?_toArray, List.getElem?_cons_zero, List.getElem?_cons_succ]; rfl
  case hf_27 => kernel_rfl
  case hQ_27 => exact fun _ _ _ h => h
  case hy_27 =>
    refine Or.inl ⟨by rfl, ?_⟩
    intro W hSw
    obtain ⟨q0, q1, q2, q3, q4, q5, q6, q7, q8, q9, qa⟩ := (HSF.out W).1 hSw
    go_simp
    try with_reducible rfl
  try simp only [Act.put, List.setIfInBounds_toArray, List.set_cons_zero, List.set_cons_succ]
  refine wpAnyH_ready (rs := [23]) (by kernel_rfl) (by simp) ?_
  refine AllReadyH.cons (o := ?oi_28) ?hi_28 (fun K hK => ?_) AllReadyH.nil
  case hi_28 => simp only [List.getElem?_toArray, List.getElem?_cons_zero, List.getElem?_cons_succ]; rfl
  go_simp
  (go_at_call 115
   with_reducible refine (HLt.out _).mono ?_
   rintro e wA ⟨vt, rfl, hot, hbt⟩
   obtain ⟨At, ct, rfl⟩ := own_slice hot
   have HOT : Hid (wA.ownsRow (w.heap.size + 1) 113 1 (.slice At r.takes.length ct) r.takes.length (r.takes.map U8)) := Lib.hid (own_base hot (by have := HSZ.out; show _ ≤ w2.heap.size; omega))
   have HBT : Hid (Below w2.heap.size w2 wA) := Lib.hid (HB0.out.trans (hbt.mono HB0.out.size))
   clear hot hbt)
  refine hK.out _ _ (HC.out _ HBT.out) (fun hHeld => ?_)
  clear hK K
  try simp only [Act.put, List.setIfInBounds_toArray, List.set_cons_zero, List.set_cons_succ]
  refine wpAnyH_ready (rs := [28]) (by kernel_rfl) (by simp) ?_
  refine AllReadyH.cons (o := ?oi_29) ?hi_29 (fun K hK => ?_) AllReadyH.nil
  case hi_29 => simp only [List.getElem?_toArray, List.getElem?_cons_zero, List.getElem?_cons_succ]; rfl
  go_simp
  (go_at_call 115
   with_reducible refine (HLg.out _).mono ?_
   rintro e wB ⟨vg, rfl, hog, hbg⟩
   obtain ⟨Ag, cg, rfl⟩ := own_slice hog
   have HOG : Hid (wB.ownsRow (w.heap.size + 1) 113 1 (.slice Ag r.gives.length cg) r.gives.length (r.gives.map U8)) := Lib.hid (own_base hog (by have := HSZ.out; have := HBT.out.size; omega))
   have HOT2 := Lib.hid (own_kept HOT.out hbg)
   have HBAB := Lib.hid hbg
   have HBG : Hid (Below w2.heap.size w2 wB) := Lib.hid (HBT.out.trans (hbg.mono HBT.out.size))
   clear hog hbg)
  refine hK.out _ _ (HC.out _ HBG.out) (fun hHeld => ?_)
  clear hK K
  try simp only [Act.put, List.setIfInBounds_toArray, List.set_cons_zero, List.set_cons_succ]
  refine wpAnyH_take (i := 29) (oi := ?oi_30) (v := ?_) ?hi_30 (by kernel_rfl) ?hf_30 (by kernel_rfl) ?hQ_30 ?hy_30 (by assumption) ?_
  case hi_30 => simp only [List.getElem?_toArray, List.getElem?_cons_zero, List.getElem?_cons_succ]; rfl
  case hf_30 => kernel_rfl
  case hQ_30 => exact fun _ _ _ h => h
  case hy_30 =>
    refine Or.inl ⟨by rfl, ?_⟩
    intro W hSw
    go_simp
    try with_reducible rfl
  try simp only [Act.put, List.setIfInBounds_toArray, List.set_cons_zero, List.set_cons_succ]
  have HBS : Hid (∀ cs, S (wB.setRow w.heap.size cs)) := Lib.hid (fun cs => by
    have h := (HSF.out wB).1 (HC.out _ HBG.out)
    have e : ∀ b o, b ≠ w.heap.size → (wB.setRow w.heap.size cs).cell? ⟨b, o, none⟩ = wB.cell? ⟨b, o, none⟩ := fun b o hb => cell_setRow_other wB w.heap.size cs ⟨b, o, none⟩ hb
    refine (HSF.out _).2 ?_
    rw [e g _ (by omega), e g _ (by omega), e g _ (by omega), e g _ (by omega), e g _ (by omega), e g _ (by omega), e g _ (by omega), e g _ (by omega), e g _ (by omega), e g _ (by omega), e (w.heap.size + 1) _ (by omega)]
    exact h)
  refine wpAnyH_ready (rs := [30]) (by kernel_rfl) (by simp) ?_
  refine AllReadyH.cons (o := ?oi_31) ?hi_31 (fun K hK => ?_) AllReadyH.nil
  case hi_31 => simp only [List.getElem?_toArray, List.getElem?_cons_zero, List.getElem?_cons_succ]; rfl
  refine wp_store_row 61 (.tmp 4) (.tmp 46) rfl w.heap.size _ rfl rfl 61 Z57 (HBR.out.below HBG.out HBR.out.lt) (by kernel_rfl) (by rfl) (by simp [Value.oneCell']) ?_
  refine hK.out _ _ (HBS.out _) (fun hHeld => ?_)
  clear hK K
  try simp only [Act.put, List.setIfInBounds_toArray, List.set_cons_zero, List.set_cons_succ]
  refine wpAnyH_take (i := 31) (oi := ?oi_32) (v := ?_) ?hi_32 (by kernel_rfl) ?hf_32 (by kernel_rfl) ?hQ_32 ?hy_32 (by assumption) ?_
  case hi_32 => simp only [List.getElem?_toArray, List.getElem?_cons_zero, List.getElem?_cons_succ]; rfl
  case hf_32 => kernel_rfl
  case hQ_32 => exact fun _ _ _ h => h
  case hy_32 =>
    refine Or.inl ⟨by rfl, ?_⟩
    intro W hSw
    go_simp
    try with_reducible rfl
  try simp only [Act.put, List.setIfInBounds_toArray, List.set_cons_zero, List.set_cons_succ]
  refine wpAnyH_done (by kernel_rfl) ?_ _
  clear hHeld
  go_wp2
  have hfin : IPost r i w (.returned (.tuple #[.agg #[.int .i64 (IntKind.i64.wrap ((r.first : Int) + (i : Int))), .string (⟨r.head.toArray⟩ ++ s), .int .i64 (r.form : Int), .slice At r.takes.length ct, .slice Ag r.gives.length cg], .bool true])) (wB.setRow w.heap.size #[.int .i64 (IntKind.i64.wrap ((r.first : Int) + (i : Int))), .string (⟨r.head.toArray⟩ ++ s), .int .i64 (r.form : Int), .slice At r.takes.length ct, .slice Ag r.gives.length cg]) := by
    have hwr : IntKind.i64.wrap ((r.first : Int) + (i : Int)) = (r.first : Int) + (i : Int) := by rw [IntKind.wrap_i64]; omega
    refine ⟨At, ct, Ag, cg, ?_, ?_, ?_, ?_⟩
    · rw [HIV.out, hwr]
    · exact own_base (own_setRow HOT2.out (by omega)) (by omega)
    · exact own_base (own_setRow HOG.out (by omega)) (by omega)
    · exact below_setRow (HBW.out.trans (HBG.out.mono HBW.out.size)) (Nat.le_refl _) _
  refine bodyPost_ret (v := _) ?_ rfl hfin
  exact res_cell Tryz.results81 _ _ w.heap.size 61 _ _ rfl (setRow_heap wB w.heap.size Z57 _ 61 (0, 0) (HBR.out.below HBG.out HBR.out.lt)) Tryz.underlying61 rfl (by kernel_rfl)
end Go.Proofs.YtggfaalodojjkaaGreatDoor
