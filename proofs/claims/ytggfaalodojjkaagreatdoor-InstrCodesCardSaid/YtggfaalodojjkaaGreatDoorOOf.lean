/-
  op.Find.
-/
import Derived.Test.YtggfaalodojjkaaGreatDoorOOe
import Derived.OpenShut
import Derived.Laws.Tables
namespace Go.Proofs.YtggfaalodojjkaaGreatDoor
open Go.RowKit Go.ChangeShapes Go.WideShapes Go.ChangeAt
set_option linter.unusedVariables false
set_option linter.unusedSimpArgs false
def goodB (r : Rw) : Bool := decide (r.first < 100000) && decide (r.names.length < 1000) && r.names.all (fun x => decide (x.toNat < 128)) && decide (r.takes.length ≤ 3) && r.takes.all (fun x => decide (0 < x) && decide (x < 256))
  && decide (r.gives.length ≤ 3) && r.gives.all (fun x => decide (0 < x) && decide (x < 256)) && decide (r.form < 100) && decide (r.head.length < 100) && (Lib.fields r.names).all (fun l => decide (l.length < 1000)) && decide ((Lib.fields r.names).length < 100)
theorem good_of {r : Rw} (h : goodB r = true) : r.good := by
  unfold goodB at h
  simp only [Bool.and_eq_true, decide_eq_true_eq, List.all_eq_true] at h
  obtain ⟨⟨⟨⟨⟨⟨⟨⟨⟨⟨a, b⟩, c⟩, d⟩, e⟩, f⟩, g⟩, i⟩, j⟩, k⟩, l⟩ := h
  exact ⟨a, b, c, d, e, f, g, i, j, k, l⟩
theorem all_good : RW.all goodB = true := by kernel_rfl
theorem good_in {r : Rw} (h : r ∈ RW) : r.good := good_of (List.all_eq_true.1 all_good r h)
theorem RW_length : RW.length = 38 := by kernel_rfl
theorem flat_at {α β : Type} (f : α → List β) (n : Nat) : ∀ (l : List α), (∀ x ∈ l, (f x).length = n) → ∀ k j, j < n → (l.flatMap f)[n * k + j]? = (l[k]?).bind fun x => (f x)[j]?
  | [], _, k, j, _ => by simp
  | x :: l, h, 0, j, hj => by
    have hx := h x (by simp)
    rw [List.flatMap_cons, Nat.mul_zero, Nat.zero_add, List.getElem?_append_left (by omega)]
    rfl
  | x :: l, h, k + 1, j, hj => by
    have hx := h x (by simp)
    rw [List.flatMap_cons, List.getElem?_append_right (by rw [hx, Nat.mul_add]; omega), hx]
    have := flat_at f n l (fun y hy => h y (by simp [hy])) k j hj
    rw [show n * (k + 1) + j - n = n * k + j by rw [Nat.mul_add]; omega, this]
    rfl
theorem cells_len (r : Rw) : r.cells.length = 10 := rfl
theorem cellsCR (k j : Nat) (hj : j < 10) : CR[10 * k + j]? = ((RW[k]?).bind fun r => r.cells[j]?) := by
  unfold CR
  rw [List.getElem?_toArray]
  exact flat_at Rw.cells 10 RW (fun r _ => cells_len r) k j hj
theorem rowAt_of {w : World} {b k : Nat} {r : Rw} (hb : Blk w b 142 CR) (hk : RW[k]? = some r) : RowAt w b (k * 10) r := fun j hj => by
  rw [Nat.mul_comm k 10, hb.cell, cellsCR k j hj, hk]; rfl
def fstK (k : Nat) : Nat := ((RW[k]?).map (·.first)).getD 0
/-- the row of a code -/
def RowOf (code : Int) (k : Nat) (r : Rw) : Prop := RW[k]? = some r ∧ (r.first : Int) ≤ code ∧ ∀ j, k < j → j < 38 → code < (fstK j : Int)
def NoPost (w : World) (e : Ending) (w' : World) : Prop := e = .returned (.tuple #[.agg Z57, .bool false]) ∧ Below w.heap.size w w'
/-- what Find answers -/
def FPost (code : Int) (w : World) (e : Ending) (w' : World) : Prop :=
  (code < 0 ∧ NoPost w e w') ∨ (∃ k r, RowOf code k r ∧ (((Lib.fields r.names).length ≤ (code - r.first).toNat ∧ NoPost w e w') ∨ ((code - r.first).toNat < (Lib.fields r.names).length ∧ IPost r (code - r.first).toNat w e w')))
def I57 (c f : Int) (s : ByteArray) (A B : Option Addr) (n cp m cq : Nat) : Array Value := #[.int .i64 c, .string s, .int .i64 f, .slice A n cp, .slice B m cq]
theorem wpList_store61 {ops : Array Oper} {rest : List Oper} {o : Oper} {a : Act} {w : World} {Q : Exit → Act → World → Prop} (hgd : o.guard = none) (x y : Operand) (ho : o.op = .store 61 x y)
    (g : Nat) (old : Array Value) (c f : Int) (s : ByteArray) (A B : Option Addr) (n cp m cq : Nat) (hx : a.eval x = .pointer (some ⟨g, 0, none⟩)) (hy : a.eval y = .agg #[.int .i64 c, .string s, .int .i64 f, .slice A n cp, .slice B m cq])
    (hg : Blk w g 61 old) (hold : Hid (old.size = 5))
    (h : wpList Tryz.prog ops Q rest (a.put o.dst undef) (w.setRow g #[.int .i64 c, .string s, .int .i64 f, .slice A n cp, .slice B m cq])) : wpList Tryz.prog ops Q (o :: rest) a w :=
  wpList_store_row hgd 61 x y ho g _ hx hy 61 old hg (by kernel_rfl) (by rw [hold.out]; rfl) (by simp [Value.oneCell']) h
theorem heap3 (w : World) (a b c : Obj) : (((w.alloc a).alloc b).alloc c).heap[w.heap.size + 1 + 1]? = some c := by
  have h := heap_alloc_new ((w.alloc a).alloc b) c
  rwa [show ((w.alloc a).alloc b).heap.size = w.heap.size + 1 + 1 by simp] at h
set_option maxHeartbeats 4000000 in
set_option maxRecDepth 100000 in
theorem Find_any (code : Int) (hc : (Lit.int .i64 code).wf = true) (w : World) (hT : Tb w) : Calls Tryz.prog 53 #[.int .i64 code] w (FPost code w) := by
  have Z := Lib.hid (zero_of_info zr97).1
  have hi97 := Lib.hid (zero_of_info zr97).2
  have hb := bounds_i64 hc
  have R := Lib.hid (fun W => Rows_ok W)
  have hCs := Lib.hid CR_size
  have hC1 := Lib.hid one_CR
  have hZs := Lib.hid ZR_size
  have HRA := Lib.hid (fun W b k r => @rowAt_of W b k r)
  generalize CR = C at R hCs hC1 HRA
  generalize ZR = Zr at Z hZs
  have HZ0 : Hid (∀ W, (zeroValue 142).run Tryz.prog W = .ok (.agg Zr) W) := Z
  have z := HZ0.out
  have HT := Lib.hid hT
  clear hT hc Z
  go_enter Tryz.func53, Tryz.ntmps53
  go_wp2_with (first
    | (go_at_call 77; with_reducible refine (R.out _).mono ?_; rintro e w1 ⟨rfl, rfl⟩)
    | (with_reducible refine wpList_store_row rfl 142 (.tmp 4) (.tmp 7) rfl _ C rfl rfl 142 Zr ?d1 ?d2 ?d3 ?d4 ?_))
  case d1 => exact heap3 _ _ _ _
  case d2 => rw [hi97.out, hCs.out]
  case d3 => rw [hCs.out, hZs.out]
  case d4 => exact hC1.out
  clear z
  generalize hw2 : World.setRow _ _ _ = w2
  have HB2 : Hid (Below w.heap.size w w2) := Lib.hid (by
    rw [← hw2]
    exact below_setRow ((((Below.refl _ _).alloc (Nat.le_refl _) _).alloc (by simp) _).alloc (by simp; omega) _) (by omega) _)
  have HBC : Hid (Blk w2 (w.heap.size + 1 + 1) 142 C) := Lib.hid (by
    rw [← hw2]
    exact setRow_heap _ _ Zr C 142 (0, 0) (heap3 _ _ _ _))
  have HB0 : Hid (Blk w2 w.heap.size 61 Z57) := Lib.hid (by
    rw [← hw2]
    refine (setRow_other _ _ _ _ (by omega)).trans ?_
    exact ((Blk.new w 61 Z57).alloc _).alloc _)
  clear hw2
  have HT2 : Hid (Tb w2) := Lib.hid (HT.out.below HB2.out HT.out.size)
  go_wp2_with fail
  have HRW := Lib.hid RW_length
  go_loop [5] (fun v5 => ∃ (k : Nat) (z : Int), k ≤ 38 ∧ v5 = .int .i64 z ∧ Hid (z = (k : Int) - 1) ∧ Hid (∀ j, k ≤ j → j < 38 → code < (fstK j : Int))) (fun v5 => (intOf v5 + 1).toNat)
  case atStart => exact ⟨38, 37, by omega, rfl, Lib.hid rfl, Lib.hid (fun j h1 h2 => by omega)⟩
  case round =>
    obtain ⟨k, zz, hk, rfl, HZ, HJ⟩ := hrel
    cases k with
    | zero =>
      obtain rfl : zz = -1 := by have := HZ.out; omega
      obtain ⟨y, hy⟩ : ∃ y : Int, y = -1 := ⟨_, rfl⟩
      have hyn : y < 0 := by omega
      rw [← hy]
      clear hy
      have HN : Hid (code < 0) := Lib.hid (HJ.out 0 (by omega) (by omega))
      go_wp2_with (with_reducible refine wpList_store61 rfl (.tmp 2) (.tmp 30) rfl w.heap.size Z57 _ _ _ _ _ _ _ _ _ rfl rfl HB0.out (Lib.hid rfl) ?_)
      refine bodyPost_ret (v := _) (res_cell Tryz.results53 _ _ w.heap.size 61 _ _ rfl (setRow_heap w2 w.heap.size Z57 _ 61 (0, 0) HB0.out) Tryz.underlying61 rfl (by kernel_rfl)) rfl ?_
      exact .inl ⟨HN.out, rfl, below_setRow HB2.out (Nat.le_refl _) _⟩
    | succ m =>
      obtain rfl : zz = (m : Int) := by have := HZ.out; omega
      have hm : m < 38 := by omega
      obtain ⟨r, HR⟩ : ∃ r, Hid (RW[m]? = some r) := ⟨_, Lib.hid (List.getElem?_eq_getElem (by rw [HRW.out]; omega))⟩
      have HA := Lib.hid (HRA.out w2 _ m r HBC.out HR.out)
      have c0 : w2.cell? ⟨w.heap.size + 1 + 1, m * 10, none⟩ = some (.int .i64 ((r.first : Nat) : Int)) := (rowCells HA.out).1
      have HG := Lib.hid (good_in (List.mem_of_getElem? HR.out))
      have hf := HG.out.first
      have hfm : fstK m = r.first := by unfold fstK; rw [HR.out]; rfl
      by_cases hle : (r.first : Int) ≤ code
      · have HRO : Hid (RowOf code m r) := Lib.hid ⟨HR.out, hle, fun j h1 h2 => HJ.out j (by omega) h2⟩
        clear hfm
        obtain ⟨i, hi⟩ : ∃ i : Nat, code - (r.first : Int) = (i : Int) := ⟨(code - (r.first : Int)).toNat, by omega⟩
        have HI : Hid ((code - (r.first : Int)).toNat = i) := Lib.hid (by omega)
        have hi9 : i ≤ 9223372036854775807 := by omega
        by_cases hin : i < (Lib.fields r.names).length
        · have HF := Lib.hid (Info_ok r HG.out (w.heap.size + 1 + 1) (m * 10) i hin w2 HT2.out HA.out)
          have HIN := Lib.hid hin
          clear hin
          go_wp2_with (first
            | (go_at_call 81; (with_reducible refine HF.out.mono ?_); rintro e w3 ⟨At, ct, Ag, cg, rfl, h1, h2, h3⟩; have H1 := Lib.hid h1; have H2 := Lib.hid h2; have H3 := Lib.hid h3; clear h1 h2 h3)
            | (with_reducible refine wpList_store61 rfl (.tmp 2) (.tmp 28) rfl w.heap.size Z57 _ _ _ _ _ _ _ _ _ rfl rfl (HB0.out.below H3.out HB0.out.lt) (Lib.hid rfl) ?_))
          go_wp2
          refine bodyPost_ret (v := _) (res_cell Tryz.results53 _ _ w.heap.size 61 _ _ rfl (setRow_heap w3 w.heap.size Z57 _ 61 (0, 0) (HB0.out.below H3.out HB0.out.lt)) Tryz.underlying61 rfl (by kernel_rfl)) rfl ?_
          refine .inr ⟨m, r, HRO.out, .inr ?_⟩
          rw [HI.out]
          have hs2 : w.heap.size < w2.heap.size := HB0.out.lt
          exact ⟨HIN.out, At, ct, Ag, cg, rfl, own_base (own_setRow H1.out hs2) (Nat.le_of_lt hs2), own_base (own_setRow H2.out hs2) (Nat.le_of_lt hs2), below_setRow (HB2.out.trans (H3.out.mono HB2.out.size)) (Nat.le_refl _) _⟩
        · have HF := Lib.hid (Info_no r HG.out (w.heap.size + 1 + 1) (m * 10) i (by omega) hi9 w2 HT2.out HA.out)
          have HIN : Hid ((Lib.fields r.names).length ≤ i) := Lib.hid (by omega)
          clear hin
          go_wp2_with (first
            | (go_at_call 81; (with_reducible refine HF.out.mono ?_); rintro e w3 ⟨rfl, h3⟩; have H3 := Lib.hid h3; clear h3)
            | (with_reducible refine wpList_store61 rfl (.tmp 2) (.tmp 28) rfl w.heap.size Z57 _ _ _ _ _ _ _ _ _ rfl rfl (HB0.out.below H3.out HB0.out.lt) (Lib.hid rfl) ?_))
          go_wp2
          refine bodyPost_ret (v := _) (res_cell Tryz.results53 _ _ w.heap.size 61 _ _ rfl (setRow_heap w3 w.heap.size Z57 _ 61 (0, 0) (HB0.out.below H3.out HB0.out.lt)) Tryz.underlying61 rfl (by kernel_rfl)) rfl ?_
          refine .inr ⟨m, r, HRO.out, .inl ?_⟩
          rw [HI.out]
          exact ⟨HIN.out, rfl, below_setRow (HB2.out.trans (H3.out.mono HB2.out.size)) (Nat.le_refl _) _⟩
      · have hlt : code < (r.first : Int) := by omega
        go_wp2_with fail
        go_round
        case rel => exact ⟨m, (m : Int) - 1, by omega, rfl, Lib.hid rfl, Lib.hid (fun j h1 h2 => by
          by_cases hj : j = m
          · rw [hj, hfm]; exact hlt
          · exact HJ.out j (by omega) h2)⟩
        case measure => simp [intOf]
end Go.Proofs.YtggfaalodojjkaaGreatDoor
