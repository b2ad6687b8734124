/-
  code's nest: through.
-/
import Derived.Test.YtggfaalodojjkaaDoorNg
import Derived.Laws.CopyOwn
namespace Go.Proofs.YtggfaalodojjkaaDoor
open Go.RowKit
set_option linter.unusedVariables false
set_option linter.unusedSimpArgs false
theorem info58 : (Tryd.prog.info? 58).map (fun i => (i.zero, i.size, i.bytes)) = some (some (.agg #[.int .i64 0, .slice none 0 0, .slice none 0 0, .int .i64 0, .bool false]), 5, 72) := by kernel_rfl
theorem info42 : (Tryd.prog.info? 42).map (fun i => (i.zero, i.size, i.bytes)) = some (some (.agg #[.int .i64 0, .int .u64 0, .int .u64 0, .int .i64 0, .slice none 0 0]), 5, 56) := by kernel_rfl
/-- a whole body gone over: an error's number and the nest at its end -/
def thN : List Int → Ne → Int × Ne
  | [], n => if n.cl then (0, n) else (4, n)
  | c :: r, n => if (spN n c).1 = 0 then thN r (spN n c).2 else spN n c
def n0 : Ne := ⟨0, [], [], 0, false⟩
/-- an instruction's cells -/
def InAt (w : World) (g o : Nat) (c : Int) : Prop := ∃ (a b al : Int) (B : Option Addr) (ln cp : Nat),
  w.cell? ⟨g, o, none⟩ = some (.int .i64 c) ∧ w.cell? ⟨g, o + 1, none⟩ = some (.int .u64 a) ∧ w.cell? ⟨g, o + 2, none⟩ = some (.int .u64 b) ∧ w.cell? ⟨g, o + 3, none⟩ = some (.int .i64 al) ∧ w.cell? ⟨g, o + 4, none⟩ = some (.slice B ln cp)
def Ins (w : World) (A : Option Addr) (cap : Nat) (L : List Int) : Prop := L.length ≤ cap ∧ cap ≤ maxLen ∧ (0 < L.length → ∃ g o, A = some ⟨g, o, none⟩ ∧ g < w.heap.size ∧ ∀ i, i < L.length → InAt w g (o + i * 5) (L.getD i 0))
def ThP (L : List Int) (w : World) (e : Ending) (w' : World) : Prop := ∃ A1 c1 A2 c2 n r, thN L n0 = (r, n) ∧ e = .returned (.tuple #[.agg #[.int .i64 (n.pos : Nat), .slice A1 n.sp.length c1, .slice A2 n.op.length c2, .int .i64 (n.dp : Nat), .bool n.cl], .int .i64 r]) ∧ w'.ownsRow (w.heap.size + 1) 48 3 (.slice A1 n.sp.length c1) n.sp.length (spC n.sp) ∧ Below w.heap.size w w'
theorem wpList_store58 {ops : Array Oper} {rest : List Oper} {o : Oper} {a : Act} {w : World} {Q : Exit → Act → World → Prop} (hgd : o.guard = none) (x y : Operand) (ho : o.op = .store 58 x y)
    (g : Nat) (old : Array Value) (c f : Int) (A B : Option Addr) (n cp m cq : Nat) (cl : Bool) (hx : a.eval x = .pointer (some ⟨g, 0, none⟩)) (hy : a.eval y = .agg #[.int .i64 c, .slice A n cp, .slice B m cq, .int .i64 f, .bool cl])
    (hg : Blk w g 58 old) (hold : Hid (old.size = 5))
    (h : wpList Tryd.prog ops Q rest (a.put o.dst undef) (w.setRow g #[.int .i64 c, .slice A n cp, .slice B m cq, .int .i64 f, .bool cl])) : wpList Tryd.prog ops Q (o :: rest) a w :=
  wpList_store_row hgd 58 x y ho g _ hx hy 58 old hg (by kernel_rfl) (by rw [hold.out]; rfl) (by simp [Value.oneCell']) h
theorem own_setRow {base E size g : Nat} {w : World} {cs : Array Value} {v : Value} {n : Nat} {xs : List Value} (h : w.ownsRow base E size v n xs) (hg : g < base) : (w.setRow g cs).ownsRow base E size v n xs :=
  ⟨h.1, h.2.imp id fun ⟨g2, cap, cur, e, h1, h2, h3⟩ => ⟨g2, cap, cur, e, h1, (setRow_other w g g2 cs (by omega)).trans h2, h3⟩⟩
theorem res_cell {fn : Func} {P : Program} {p u : Tmp} {ty : TypeId} (h : fn.results = #[.cell p ty, .tmp u]) (tmps : Array Value) (w : World) (g : Nat) (t : TypeId) (cs : Array Value) (d : TypeDesc)
    (hp : tmps.getD p undef = .pointer (some ⟨g, 0, none⟩)) (hg : w.heap[g]? = some (.cells cs t (0, 0))) (hu : P.underlying ty = some d) (hd : (match d with | .struct _ | .array _ _ => true | _ => false) = true) (hi : (P.info? ty).map (·.size) = some cs.size) :
    (results fn tmps).run P w = .ok (.tuple #[.agg cs, tmps.getD u undef]) w := by
  rw [results_cell_tmp h, hp]
  rw [show asAddr (.pointer (some ⟨g, 0, none⟩)) = pure ⟨g, 0, none⟩ from rfl]
  simp [run_loadVar_row w g t ty cs (0, 0) d hg hu hd hi]
theorem Nst.alloc {B b : Nat} {w : World} {n : Ne} {sv ov : Value} (h : Nst B w b n sv ov) (o : Obj) : Nst B (w.alloc o) b n sv ov :=
  ⟨h.blk.alloc o, h.hb, own_fr h.sr ((Fr.refl (fun _ => False) w).alloc o) (fun _ _ e => e), own_fr h.orr ((Fr.refl (fun _ => False) w).alloc o) (fun _ _ e => e), h.pl, h.sl, h.ol, h.dl⟩
theorem setE_len (sp : List (Nat × Int × Nat)) (j : Nat) (e : Int) : (setE sp j e).length = sp.length := by unfold setE; rw [List.length_modify]
theorem setF_len (sp : List (Nat × Int × Nat)) (j e : Nat) : (setF sp j e).length = sp.length := by unfold setF; rw [List.length_modify]
theorem stN_ok (n : Ne) (c : Int) (h : n.ok) : (stN n c).2.ok ∧ (stN n c).2.sp.length ≤ n.sp.length + 1 := by
  unfold stN
  split
  · exact ⟨h, by simp⟩
  · split
    · split
      · exact ⟨h, by simp⟩
      · refine ⟨fun o ho => ?_, by simp⟩
        simp only [List.mem_append, List.mem_singleton] at ho
        simp only [List.length_append, List.length_singleton]
        rcases ho with ho | rfl
        · have := h o ho; omega
        · simp
    · split
      · split
        · rename_i j hl
          refine ⟨fun o ho => ?_, by simp [setE_len]⟩
          simp only [List.mem_append, List.mem_singleton] at ho
          simp only [setE_len]
          rcases ho with ho | rfl
          · exact h o ((List.dropLast_sublist _).subset ho)
          · exact h (j, true) (List.mem_of_getLast? hl)
        · exact ⟨h, by simp⟩
      · split
        · split
          · refine ⟨fun o ho => ?_, by simp [setF_len]⟩
            simp only [setF_len]
            exact h o ((List.dropLast_sublist _).subset ho)
          · exact ⟨h, by simp⟩
        · exact ⟨h, by simp⟩
theorem spN_ok (n : Ne) (c : Int) (h : n.ok) : (spN n c).2.ok ∧ (spN n c).2.sp.length ≤ n.sp.length + 1 := by
  have := stN_ok n c h
  unfold spN
  split
  · exact this
  · exact this
theorem spN_pos (n : Ne) (c : Int) (h : (spN n c).1 = 0) : (spN n c).2.pos = n.pos + 1 := by
  by_cases h0 : (stN n c).1 = 0
  · rw [spN_yes n c h0]; show (stN n c).2.pos + 1 = _; rw [stN_pos]
  · rw [spN_no n c h0] at h; exact absurd h h0
theorem results25 : Tryd.f25.results = #[.cell 2 58, .tmp 3] := by kernel_rfl
def Z44 : Array Value := #[.int .i64 0, .slice none 0 0, .slice none 0 0, .int .i64 0, .bool false]
/-- the result's variable stored, and the nest given out -/
theorem th_end {L : List Int} {w w1 : World} {n : Ne} {A B : Option Addr} {c d : Nat} (r : Int) (hN : Nst (w.heap.size + 1) w1 (w.heap.size + 1) n (.slice A n.sp.length c) (.slice B n.op.length d)) (hT : thN L n0 = (r, n)) (hB : Below w.heap.size w w1) :
    ThP L w (.returned (.tuple #[.agg #[.int .i64 (n.pos : Nat), .slice A n.sp.length c, .slice B n.op.length d, .int .i64 (n.dp : Nat), .bool n.cl], .int .i64 r])) (w1.setRow w.heap.size #[.int .i64 (n.pos : Nat), .slice A n.sp.length c, .slice B n.op.length d, .int .i64 (n.dp : Nat), .bool n.cl]) :=
  ⟨_, _, _, _, n, r, hT, rfl, own_setRow hN.sr (Nat.lt_succ_self _), below_setRow hB (Nat.le_refl _) _⟩
set_option maxHeartbeats 4000000 in
set_option maxRecDepth 100000 in
theorem through_ok (A : Option Addr) (cap : Nat) (L : List Int) (hL : L.length ≤ 100000) (w : World) (hA : Ins w A cap L) :
    Calls Tryd.prog 25 #[.slice A L.length cap] w (ThP L w) := by
  obtain ⟨i4, hi4, hz4, hz5, hz6⟩ := info_parts info58
  obtain ⟨i3, hi3, hy4, hy5, hy6⟩ := info_parts info42
  obtain ⟨hc1, hc2, hA⟩ := hA
  unfold maxLen at hc2
  have HA := Lib.hid hA
  clear hA
  go_enter Tryd.func25, Tryd.ntmps25
  go_wp2
  go_loopw [10] (fun v10 wr => ∃ (k : Nat) (n : Ne) (sv ov : Value), k ≤ L.length ∧ v10 = .int .i64 k ∧ Hid (thN L n0 = thN (L.drop k) n) ∧ Hid (Nst (w.heap.size + 1) wr (w.heap.size + 1) n sv ov) ∧ Hid n.ok ∧ Hid (n.pos = k ∧ n.sp.length ≤ k) ∧ Hid (Blk wr w.heap.size 58 Z44) ∧ Hid (Below w.heap.size w wr) ∧ Hid (w.heap.size + 2 ≤ wr.heap.size)) (fun v10 _ => L.length - (intOf v10).toNat)
  case atStart =>
    refine ⟨0, n0, .slice none 0 0, .slice none 0 0, Nat.zero_le _, rfl, Lib.hid rfl, Lib.hid ⟨?_, Nat.le_refl _, World.ownsRow_nil _ _ _ _, World.ownsRow_nil _ _ _ _, by decide, by decide, by decide, by decide⟩, Lib.hid (fun o ho => by cases ho), Lib.hid ⟨rfl, Nat.le_refl _⟩, Lib.hid ?_, Lib.hid ?_, Lib.hid ?_⟩
    · have := Blk.new (w.alloc (.cells Z44 58)) 58 Z44
      rw [World.size_alloc] at this
      exact this
    · exact (Blk.new w 58 Z44).alloc _
    · exact ((Below.refl _ _).alloc (Nat.le_refl _) _).alloc (by simp) _
    · simp
  case round =>
    obtain ⟨k, n, sv, ov, hk, rfl, HT, HN, HV, HP, HR, HB, HZ⟩ := hrel
    by_cases hlt : k < L.length
    · obtain ⟨g, o, rfl, hg, hat⟩ := HA.out (by omega)
      obtain ⟨u1, u2, u3, ub, ul, uc, c0, c1, c2, c3, c4⟩ := hat k hlt
      have c0 := (HB.out.cell (p := ⟨g, o + k * 5, none⟩) hg).trans c0
      have c1 := (HB.out.cell (p := ⟨g, o + k * 5 + 1, none⟩) hg).trans c1
      have c2 := (HB.out.cell (p := ⟨g, o + k * 5 + 2, none⟩) hg).trans c2
      have c3 := (HB.out.cell (p := ⟨g, o + k * 5 + 3, none⟩) hg).trans c3
      have c4 := (HB.out.cell (p := ⟨g, o + k * 5 + 4, none⟩) hg).trans c4
      have hdr : L.drop k = L.getD k 0 :: L.drop (k + 1) := by
        rw [List.drop_eq_getElem_cons hlt, List.getD_eq_getElem?_getD, List.getElem?_eq_getElem hlt]; rfl
      rw [hdr] at HT
      clear hat hdr
      generalize L.getD k 0 = c at c0 HT
      have HS : Hid (∀ W, Nst (w.heap.size + 1) W (w.heap.size + 1) n sv ov → w.heap.size + 1 ≤ W.heap.size → Calls Tryd.prog 39 #[.pointer (some ⟨w.heap.size + 1, 0, none⟩), .int .i64 c] W (NsP (w.heap.size + 1) (w.heap.size + 1) (spN n c).2 (spN n c).1 W)) :=
        Lib.hid (fun W h1 h2 => step_ok _ _ n sv ov c W h1 HV.out (by have := HP.out; omega) (by have := HP.out; omega) h2)
      by_cases hr : (spN n c).1 = 0
      · have HRR := Lib.hid hr
        clear hr
        go_wp2_with (go_at_call 39; (refine (HS.out _ (HN.out.alloc _) (by have := HZ.out; simp; omega)).mono ?_); rintro e w1 ⟨rfl, sv1, ov1, hN, hF⟩
                     rw [HRR.out]
                     have HN1 := Lib.hid hN
                     have HF1 := Lib.hid hF
                     clear hN hF)
        go_wp2
        have hf := HF1.out
        have hb1 : Below w.heap.size w w1 := hf.below (HB.out.alloc HB.out.size _) (by have := HB.out.size; simp; omega) (fun k hk => by omega)
        have hrow : Blk w1 w.heap.size 58 Z44 := (HR.out.alloc _).fr hf (by omega)
        have hz : w.heap.size + 2 ≤ w1.heap.size := by have := hf.size; have := HZ.out; simp at *; omega
        have ht : thN L n0 = thN (L.drop (k + 1)) (spN n c).2 := by rw [HT.out]; show (if (spN n c).1 = 0 then _ else _) = _; rw [if_pos HRR.out]
        have hok := spN_ok n c HV.out
        have hps := spN_pos n c HRR.out
        refine ⟨⟨k + 1, _, sv1, ov1, hlt, rfl, Lib.hid ht, HN1, Lib.hid hok.1, Lib.hid ⟨by rw [hps, HP.out.1], by have := HP.out.2; have := hok.2; omega⟩, Lib.hid hrow, Lib.hid hb1, Lib.hid hz⟩, ?_⟩
        show L.length - ((k : Int) + 1).toNat < L.length - ((k : Int)).toNat
        omega
      · have hr2 : ((spN n c).1 == 0) = false := by simpa using hr
        have HRR := Lib.hid hr
        clear hr
        go_wp2_with (first
          | (go_at_call 39; (refine (HS.out _ (HN.out.alloc _) (by have := HZ.out; simp; omega)).mono ?_); rintro e w1 ⟨rfl, sv1, ov1, hN, hF⟩
             obtain ⟨A1, d1, rfl⟩ := own_slice hN.sr
             obtain ⟨A2, d2, rfl⟩ := own_slice hN.orr
             have x0 := hN.blk.cell 0
             have x1 := hN.blk.cell 1
             have x2 := hN.blk.cell 2
             have x3 := hN.blk.cell 3
             have x4 := hN.blk.cell 4
             have HB1 : Hid (Below w.heap.size w w1) := Lib.hid (hF.below (HB.out.alloc HB.out.size _) (by have := HB.out.size; simp; omega) (fun k hk => by omega))
             have HR1 : Hid (Blk w1 w.heap.size 58 Z44) := Lib.hid ((HR.out.alloc _).fr hF (by omega))
             have HN1 := Lib.hid hN
             have HF1 := Lib.hid hF
             clear hN hF)
          | (with_reducible refine wpList_store58 rfl (.tmp 2) (.tmp 19) rfl w.heap.size Z44 _ _ _ _ _ _ _ _ _ rfl rfl HR1.out (Lib.hid rfl) ?_))
        have ht : thN L n0 = ((spN n c).1, (spN n c).2) := by rw [HT.out]; show (if (spN n c).1 = 0 then _ else _) = _; rw [if_neg HRR.out]
        refine bodyPost_ret (v := _) (res_cell results25 _ _ w.heap.size 58 _ _ rfl (setRow_heap w1 w.heap.size Z44 _ 58 (0, 0) HR1.out) Tryd.underlying58 rfl (by kernel_rfl)) rfl ?_
        exact th_end _ HN1.out ht HB1.out
    · have hdr : L.drop k = [] := List.drop_eq_nil_of_le (by omega)
      rw [hdr] at HT
      clear hdr
      have hN := HN.out
      obtain ⟨A1, d1, rfl⟩ := own_slice hN.sr
      obtain ⟨A2, d2, rfl⟩ := own_slice hN.orr
      have x0 := hN.blk.cell 0
      have x1 := hN.blk.cell 1
      have x2 := hN.blk.cell 2
      have x3 := hN.blk.cell 3
      have x4 := hN.blk.cell 4
      clear hN
      cases hcl : n.cl with
      | true =>
        rw [hcl] at x4
        have HC := Lib.hid hcl
        clear hcl
        go_wp2_with (with_reducible refine wpList_store58 rfl (.tmp 2) (.tmp 26) rfl w.heap.size Z44 _ _ _ _ _ _ _ _ _ rfl rfl HR.out (Lib.hid rfl) ?_)
        have ht : thN L n0 = (0, n) := by rw [HT.out]; show (if n.cl = true then _ else _) = _; rw [if_pos HC.out]
        have he := th_end (L := L) (w := w) 0 HN.out ht HB.out
        rw [HC.out] at he
        refine bodyPost_ret (v := _) (res_cell results25 _ _ w.heap.size 58 _ _ rfl (setRow_heap wr w.heap.size Z44 _ 58 (0, 0) HR.out) Tryd.underlying58 rfl (by kernel_rfl)) rfl ?_
        exact he
      | false =>
        rw [hcl] at x4
        have HC := Lib.hid hcl
        clear hcl
        go_wp2_with (with_reducible refine wpList_store58 rfl (.tmp 2) (.tmp 25) rfl w.heap.size Z44 _ _ _ _ _ _ _ _ _ rfl rfl HR.out (Lib.hid rfl) ?_)
        have ht : thN L n0 = (4, n) := by rw [HT.out]; show (if n.cl = true then _ else _) = _; rw [HC.out]; rfl
        have he := th_end (L := L) (w := w) 4 HN.out ht HB.out
        rw [HC.out] at he
        refine bodyPost_ret (v := _) (res_cell results25 _ _ w.heap.size 58 _ _ rfl (setRow_heap wr w.heap.size Z44 _ 58 (0, 0) HR.out) Tryd.underlying58 rfl (by kernel_rfl)) rfl ?_
        exact he
end Go.Proofs.YtggfaalodojjkaaDoor
