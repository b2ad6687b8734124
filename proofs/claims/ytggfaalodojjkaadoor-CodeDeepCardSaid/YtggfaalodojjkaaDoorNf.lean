/-
  code's nest: stand, step.
-/
import Derived.Test.YtggfaalodojjkaaDoorNe
namespace Go.Proofs.YtggfaalodojjkaaDoor
open Go.RowKit
set_option linter.unusedVariables false
set_option linter.unusedSimpArgs false
/-- every open block is one of the spans -/
def Ne.ok (n : Ne) : Prop := ∀ o ∈ n.op, o.1 < n.sp.length
/-- what an instruction does to the blocks: an error's number and the nest after -/
def stN (n : Ne) (c : Int) : Int × Ne :=
  if n.cl then (4, n)
  else if opnB c then
    (if n.op.length = 64 then (15, n) else (0, { n with op := n.op ++ [(n.sp.length, c == 4)], sp := n.sp ++ [(n.pos, -1, 0)], dp := max n.dp (n.op.length + 1) }))
  else if c == 5 then
    (match n.op.getLast? with
     | some (j, true) => (0, { n with op := n.op.dropLast ++ [(j, false)], sp := setE n.sp j n.pos })
     | _ => (4, n))
  else if c == 11 then
    (match n.op.getLast? with
     | some (j, _) => (0, { n with op := n.op.dropLast, sp := setF n.sp j n.pos })
     | none => (0, { n with cl := true }))
  else (0, n)
def StP (B b : Nat) (n : Ne) (c : Int) (w : World) (e : Ending) (w' : World) : Prop := NsP B b (stN n c).2 (stN n c).1 w e w'
theorem NsP.same {B b : Nat} {w : World} {n : Ne} {sv ov : Value} {r : Int} (h : Nst B w b n sv ov) : NsP B b n r w (.returned (.int .i64 r)) w := ⟨rfl, sv, ov, h, Fr.refl _ _⟩
def bgN (n : Ne) (pt : Bool) : Int × Ne :=
  if n.op.length = 64 then (15, n) else (0, { n with op := n.op ++ [(n.sp.length, pt)], sp := n.sp ++ [(n.pos, -1, 0)], dp := max n.dp (n.op.length + 1) })
theorem begin_any (B b : Nat) (n : Ne) (sv ov : Value) (pt : Bool) (w : World) (h : Nst B w b n sv ov) (hs : n.sp.length ≤ 100000) (hBw : B ≤ w.heap.size) :
    Calls Tryd.prog 57 #[.pointer (some ⟨b, 0, none⟩), .bool pt] w (NsP B b (bgN n pt).2 (bgN n pt).1 w) := by
  by_cases h64 : n.op.length = 64
  · have e0 : bgN n pt = (15, n) := by unfold bgN; rw [if_pos h64]
    rw [e0]
    refine (begin_full B b n sv ov pt w h h64).mono ?_
    rintro e w' ⟨rfl, rfl⟩
    exact NsP.same h
  · have e0 : bgN n pt = (0, { n with op := n.op ++ [(n.sp.length, pt)], sp := n.sp ++ [(n.pos, -1, 0)], dp := max n.dp (n.op.length + 1) }) := by unfold bgN; rw [if_neg h64]
    rw [e0]
    exact begin_ok B b n sv ov pt w h (by have := h.ol; omega) hs hBw
theorem op_last (op : List (Nat × Bool)) : op = [] ∨ ∃ l j p, op = l ++ [(j, p)] := by
  rcases op.eq_nil_or_concat with h | ⟨l, ⟨j, p⟩, h⟩
  · exact Or.inl h
  · exact Or.inr ⟨l, j, p, by rw [h, List.concat_eq_append]⟩
def ptN (n : Ne) : Int × Ne :=
  match n.op.getLast? with
  | some (j, true) => (0, { n with op := n.op.dropLast ++ [(j, false)], sp := setE n.sp j n.pos })
  | _ => (4, n)
def enN (n : Ne) : Ne :=
  match n.op.getLast? with
  | some (j, _) => { n with op := n.op.dropLast, sp := setF n.sp j n.pos }
  | none => { n with cl := true }
theorem part_any (B b : Nat) (n : Ne) (sv ov : Value) (w : World) (h : Nst B w b n sv ov) (hv : n.ok) :
    Calls Tryd.prog 58 #[.pointer (some ⟨b, 0, none⟩)] w (NsP B b (ptN n).2 (ptN n).1 w) := by
  rcases op_last n.op with h0 | ⟨l, j, p, h0⟩
  · have e0 : ptN n = (4, n) := by unfold ptN; rw [h0]; rfl
    rw [e0]
    refine (part_empty B b n sv ov w h h0).mono ?_
    rintro e w' ⟨rfl, rfl⟩
    exact NsP.same h
  · cases p with
    | false =>
      have e0 : ptN n = (4, n) := by unfold ptN; rw [h0, List.getLast?_concat]
      rw [e0]
      refine (part_twice B b n sv ov l j w h h0).mono ?_
      rintro e w' ⟨rfl, rfl⟩
      exact NsP.same h
    | true =>
      have e0 : ptN n = (0, { n with op := l ++ [(j, false)], sp := setE n.sp j n.pos }) := by unfold ptN; rw [h0, List.getLast?_concat, List.dropLast_concat]
      rw [e0]
      exact part_one B b n sv ov l j w h h0 (hv (j, true) (by rw [h0]; simp))
theorem end_any (B b : Nat) (n : Ne) (sv ov : Value) (w : World) (h : Nst B w b n sv ov) (hv : n.ok) :
    Calls Tryd.prog 59 #[.pointer (some ⟨b, 0, none⟩)] w (NeP B b (enN n) w) := by
  rcases op_last n.op with h0 | ⟨l, j, p, h0⟩
  · have e0 : enN n = { n with cl := true } := by unfold enN; rw [h0]; rfl
    rw [e0]
    exact end_last B b n sv ov w h h0
  · have e0 : enN n = { n with op := l, sp := setF n.sp j n.pos } := by unfold enN; rw [h0, List.getLast?_concat, List.dropLast_concat]
    rw [e0]
    exact end_one B b n sv ov l j p w h h0 (hv (j, p) (by rw [h0]; simp))
theorem stN_bg (n : Ne) (c : Int) (hc : n.cl = false) (h1 : opnB c = true) : stN n c = bgN n (c == 4) := by
  unfold stN bgN; rw [hc, h1]; rfl
theorem stN_no (n : Ne) (c : Int) (hc : n.cl = false) (h1 : opnB c = false) (h2 : (c == 5) = false) (h3 : (c == 11) = false) : stN n c = (0, n) := by
  unfold stN; rw [hc, h1, h2, h3]; rfl
theorem stN_pt (n : Ne) (c : Int) (hc : n.cl = false) (h1 : opnB c = false) (h2 : (c == 5) = true) : stN n c = ptN n := by
  unfold stN ptN; rw [hc, h1, h2]; rfl
theorem stN_en (n : Ne) (c : Int) (hc : n.cl = false) (h1 : opnB c = false) (h2 : (c == 5) = false) (h3 : (c == 11) = true) : stN n c = (0, enN n) := by
  unfold stN enN; rw [hc, h1, h2, h3]; simp only [Bool.false_eq_true, if_false, if_true]
  cases n.op.getLast? <;> rfl
set_option maxHeartbeats 4000000 in
set_option maxRecDepth 100000 in
theorem stand_ok (B b : Nat) (n : Ne) (sv ov : Value) (c : Int) (w : World) (h : Nst B w b n sv ov) (hv : n.ok) (hs : n.sp.length ≤ 100000) (hBw : B ≤ w.heap.size) :
    Calls Tryd.prog 47 #[.pointer (some ⟨b, 0, none⟩), .int .i64 c] w (StP B b n c w) := by
  have x4 : w.cell? ⟨b, 4, none⟩ = some (.bool n.cl) := h.blk.cell 4
  have H := Lib.hid h
  have HV : Hid n.ok := Lib.hid hv
  have HS : Hid (n.sp.length ≤ 100000) := Lib.hid hs
  have HW : Hid (B ≤ w.heap.size) := Lib.hid hBw
  clear h hv hs hBw
  cases hc : n.cl with
  | true =>
    rw [hc] at x4
    have HC := Lib.hid hc
    clear hc
    go_enter Tryd.func47, Tryd.ntmps47
    go_wp2
    go_ret
    have e0 : stN n c = (4, n) := by unfold stN; rw [HC.out]; rfl
    unfold StP
    rw [e0]
    exact NsP.same H.out
  | false =>
    rw [hc] at x4
    have HC := Lib.hid hc
    clear hc
    cases h1 : opnB c with
    | true =>
      have H1 := Lib.hid h1
      clear h1
      have HO : Hid (Calls Tryd.prog 56 #[.int .i64 c] w fun e w' => e = .returned (.bool true) ∧ w = w') := Lib.hid (H1.out ▸ opens_ok c w)
      go_enter Tryd.func47, Tryd.ntmps47
      go_wp2_with (go_at_call 56; (with_reducible refine HO.out.mono ?_); rintro e w1 ⟨rfl, rfl⟩)
      go_wp2_with (go_at_call 57; (refine (begin_any B b n sv ov _ _ H.out HS.out HW.out).mono ?_); rintro e w1 ⟨rfl, sv1, ov1, hN, hF⟩
                   have HN := Lib.hid hN
                   have HF := Lib.hid hF
                   clear hN hF)
      go_ret
      unfold StP
      rw [stN_bg n c HC.out H1.out]
      exact ⟨rfl, _, _, HN.out, HF.out⟩
    | false =>
      have H1 := Lib.hid h1
      clear h1
      have HO : Hid (Calls Tryd.prog 56 #[.int .i64 c] w fun e w' => e = .returned (.bool false) ∧ w = w') := Lib.hid (H1.out ▸ opens_ok c w)
      by_cases h2 : (c == 5) = true
      · go_enter Tryd.func47, Tryd.ntmps47
        go_wp2_with (go_at_call 56; (with_reducible refine HO.out.mono ?_); rintro e w1 ⟨rfl, rfl⟩)
        go_wp2_with (go_at_call 58; (refine (part_any B b n sv ov _ H.out HV.out).mono ?_); rintro e w1 ⟨rfl, sv1, ov1, hN, hF⟩
                     have HN := Lib.hid hN
                     have HF := Lib.hid hF
                     clear hN hF)
        go_ret
        unfold StP
        rw [stN_pt n c HC.out H1.out h2]
        exact ⟨rfl, _, _, HN.out, HF.out⟩
      · have h2 := Bool.eq_false_iff.2 h2
        by_cases h3 : (c == 11) = true
        · go_enter Tryd.func47, Tryd.ntmps47
          go_wp2_with (go_at_call 56; (with_reducible refine HO.out.mono ?_); rintro e w1 ⟨rfl, rfl⟩)
          go_wp2_with (go_at_call 59; (refine (end_any B b n sv ov _ H.out HV.out).mono ?_); rintro e w1 ⟨rfl, sv1, ov1, hN, hF⟩
                       have HN := Lib.hid hN
                       have HF := Lib.hid hF
                       clear hN hF)
          go_ret
          unfold StP
          rw [stN_en n c HC.out H1.out h2 h3]
          exact ⟨rfl, _, _, HN.out, HF.out⟩
        · have h3 := Bool.eq_false_iff.2 h3
          go_enter Tryd.func47, Tryd.ntmps47
          go_wp2_with (go_at_call 56; (with_reducible refine HO.out.mono ?_); rintro e w1 ⟨rfl, rfl⟩)
          go_wp2
          go_ret
          unfold StP
          rw [stN_no n c HC.out H1.out h2 h3]
          exact NsP.same H.out
end Go.Proofs.YtggfaalodojjkaaDoor
