/-
  The document's example of types.
-/
import Derived.Test.YtalpkdnnclghaaaDoorNk
import Derived.Test.YtalpkdnnclghaaaDoorNl
namespace Go.Proofs.YtalpkdnnclghaaaDoor
open Go.RowKit Go.ChangeShapes Go.WideShapes Go.ChangeAt
set_option linter.unusedVariables false
set_option linter.unusedSimpArgs false
/-- what ParseSig answers where the text is a signature's -/
def SgY (l r : List Nat) (w : World) (e : Ending) (w' : World) : Prop :=
  ∃ A c B d, e = .returned (.tuple #[.agg #[.slice A l.length c, .slice B r.length d], .int .i64 0]) ∧ Byt w' A l.length c l ∧ Byt w' B r.length d r ∧ Below w.heap.size w w'
theorem isT_lt {l : List Nat} (h : okL l = true) : ∀ x ∈ l, x < 256 := by
  unfold okL at h
  simp only [Bool.and_eq_true, List.all_eq_true, isT, Bool.or_eq_true, beq_iff_eq] at h
  intro x hx
  rcases h.1 x hx with e | e <;> omega
theorem ParseSig_yes {s : List UInt8} {l r : List Nat} (hs : sgL s = some (l, r)) (hl : s.length < 4294967281) (m : Int) (w : World) (h5 : 5 < w.heap.size) (hm : w.cell? ⟨5, 0, none⟩ = some (.int .i64 m)) :
    Calls Tryd.prog 16 #[.string ⟨s.toArray⟩] w (SgY l r w) := by
  refine (ParseSig_any s hl m w h5 hm).mono ?_
  rintro e w' ⟨v1, v2, rfl, o1, o2, b⟩
  rw [hs] at o1 o2 ⊢
  obtain ⟨k1, k2, _⟩ := sgL_some hs
  obtain ⟨A, c, rfl⟩ := own_slice o1
  obtain ⟨B, d, rfl⟩ := own_slice o2
  exact ⟨A, c, B, d, rfl, Byt.own o1 (isT_lt k1), Byt.own o2 (isT_lt k2), b⟩
theorem ParseSig_no {s : List UInt8} (hs : sgL s = none) (hl : s.length < 4294967281) (m : Int) (w : World) (h5 : 5 < w.heap.size) (hm : w.cell? ⟨5, 0, none⟩ = some (.int .i64 m)) :
    Calls Tryd.prog 16 #[.string ⟨s.toArray⟩] w fun e w' => (∃ A c B d, e = .returned (.tuple #[.agg #[.slice A 0 c, .slice B 0 d], .int .i64 4])) ∧ Below w.heap.size w w' := by
  refine (ParseSig_any s hl m w h5 hm).mono ?_
  rintro e w' ⟨v1, v2, rfl, o1, o2, b⟩
  rw [hs] at o1 o2 ⊢
  obtain ⟨A, c, rfl⟩ := own_slice o1
  obtain ⟨B, d, rfl⟩ := own_slice o2
  exact ⟨⟨A, c, B, d, rfl⟩, b⟩
theorem ex_txt : sgT [127, 126] [127] = [40, 105, 51, 50, 44, 105, 54, 52, 41, 45, 62, 40, 105, 51, 50, 41] := by kernel_rfl
set_option maxHeartbeats 4000000 in
set_option maxRecDepth 100000 in
theorem awake9_any (m : Int) (w : World) (h5 : 5 < w.heap.size) (hm : w.cell? ⟨5, 0, none⟩ = some (.int .i64 m)) :
    Calls Tryd.prog 13 #[] w fun e w' => e = .returned (.bool true) ∧ Below w.heap.size w w' := by
  have HP : Hid (Calls Tryd.prog 16 #[.string ⟨#[40, 105, 51, 50, 44, 105, 54, 52, 41, 45, 62, 40, 105, 51, 50, 41]⟩] w (SgY [127, 126] [127] w)) := Lib.hid (ParseSig_yes (s := exB) ex_sg (by decide) m w h5 hm)
  clear hm h5
  go_enter Tryd.func13, Tryd.ntmps13
  have HPr := Lib.hid (fun A B c d W hA hB => ex_txt ▸ SPrint_any A B 2 c 1 d [127, 126] [127] (by decide) (by decide) W hA hB)
  have HBt : Hid (∀ W, Calls Tryd.prog 30 #[.int .u8 126] W fun e w' => e = .returned (.int .i64 64) ∧ W = w') := Lib.hid (fun W => Bits_ok 126 (by decide) W)
  go_wp2_with (go_at_call 16; (with_reducible refine HP.out.mono ?_); rintro e w1 ⟨A, c, B, d, rfl, hA, hB, hb⟩
               obtain ⟨q, o, rfl, hq, hc⟩ := hA.2.2.2.2 (by decide)
               have HA := Lib.hid hA
               have HC := Lib.hid (And.intro hq (hc 1 (by decide)))
               have HB := Lib.hid hB
               have HB1 := Lib.hid hb
               have hm2 := hA.2.2.1
               clear hA hB hb hq hc)
  have hbl : Below w1.heap.size w1 (w1.alloc (Obj.cells #[Value.slice (some ⟨q, o, none⟩) 2 c, Value.slice B 1 d] 27)) := (Below.refl _ _).alloc (Nat.le_refl _) _
  have HBL := Lib.hid hbl
  clear hbl
  go_wp2_with (go_at_call 17; (refine (HPr.out _ _ _ _ _ (HA.out.below HBL.out) (HB.out.below HBL.out)).mono ?_); rintro e w2 ⟨rfl, hb2⟩
               have hk := (Blk.new w1 27 #[Value.slice (some ⟨q, o, none⟩) 2 c, Value.slice B 1 d]).below hb2 (by simp)
               have x0 := hk.cell 0
               have x1 : w2.cell? ⟨q, o + 1, none⟩ = some (.int .u8 126) := (hb2.cell (p := ⟨q, o + 1, none⟩) (by simp; have := HC.out.1; omega)).trans ((HBL.out.cell (p := ⟨q, o + 1, none⟩) HC.out.1).trans HC.out.2)
               have HB2 := Lib.hid (HB1.out.trans ((HBL.out.trans (hb2.mono (by simp))).mono HB1.out.size))
               clear hk hb2)
  go_wp2_with (go_at_call 30; (with_reducible refine (HBt.out _).mono ?_); rintro e w3 ⟨rfl, rfl⟩)
  go_ret
  exact ⟨by simp, HB2.out⟩
end Go.Proofs.YtalpkdnnclghaaaDoor
