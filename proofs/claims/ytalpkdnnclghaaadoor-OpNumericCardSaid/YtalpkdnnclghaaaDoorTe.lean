/-
  OpNumeric's walk.
-/
import Derived.Test.YtalpkdnnclghaaaDoorTd
import Derived.Outline
namespace Go.Proofs.YtalpkdnnclghaaaDoor
open Go.RowKit Go.ChangeShapes Go.WideShapes Go.ChangeAt
set_option linter.unusedVariables false
set_option linter.unusedSimpArgs false
theorem info72 : (Tryd.prog.info? 72).map (fun i => (i.zero, i.size, i.bytes)) = some (some (.slice none 0 0), 1, 24) := by kernel_rfl
theorem wv_at (l : List (List UInt8)) {w : World} {g t : Nat} (hb : Blk w g t (WV l)) (k : Nat) (hk : k < l.length) : w.cell? ⟨g, k, none⟩ = some (.string ⟨(l.getD k []).toArray⟩) := by
  rw [hb.cell k]
  unfold WV
  rw [List.getElem?_toArray, List.getElem?_map, List.getElem?_eq_getElem hk, List.getD_eq_getElem?_getD, List.getElem?_eq_getElem hk]; rfl
theorem wsz (l : List (List UInt8)) (k : Nat) (h : (l.all fun x => decide (x.length < 100)) = true) : ¬ 9223372036854775807 < 4 + (⟨(l.getD k []).toArray⟩ : ByteArray).size := by
  have h1 : (l.getD k []).length < 100 := by
    rw [List.getD_eq_getElem?_getD]
    by_cases hk : k < l.length
    · rw [List.getElem?_eq_getElem hk]
      have := List.all_eq_true.1 h _ (List.getElem_mem hk)
      simpa using this
    · rw [List.getElem?_eq_none (by omega)]; decide
  have h2 : (⟨(l.getD k []).toArray⟩ : ByteArray).size = (l.getD k []).length := by simp [ByteArray.size]
  omega
theorem cat_eq (a b : List UInt8) : (⟨a.toArray⟩ ++ ⟨b.toArray⟩ : ByteArray) = ⟨(a ++ b).toArray⟩ := ba_ext (by rw [ByteArray.data_append, Array.toList_append])
set_option maxHeartbeats 16000000 in
set_option maxRecDepth 100000 in
theorem numeric_no (c : Int) (hc : (Lit.int .i64 c).wf = true) (w : World) (hT : Tb w) (hn : c < 69 ∨ (90 < c ∧ c < 103) ∨ 138 < c)
    (hA : Calls Tryd.prog 43 #[.int .i64 c] w fun e w' => e = .returned (.tuple #[.int .i64 0, .int .i64 0, .int .i64 0, .bool false]) ∧ Below w.heap.size w w') :
    Calls Tryd.prog 10 #[.int .i64 c] w fun e w' => e = .returned (.bool true) ∧ Below w.heap.size w w' := by
  have hb := bounds_i64 hc
  have HA := Lib.hid hA
  have HN := Lib.hid (fun W => RName_any c hc W)
  have HW := Lib.hid awake_any
  have HT := Lib.hid hT
  generalize (⟨(nameL c).toArray⟩ : ByteArray) = nm at HN
  clear hA hT hc
  rcases hn with h | ⟨h, h'⟩ | h
  · have e1 : ¬ 90 < c := by omega
    have e2 : ¬ 103 ≤ c := by omega
    go_enter Tryd.func10, Tryd.ntmps10
    go_wp2_with (first
      | (go_at_call 43; (with_reducible refine HA.out.mono ?_); rintro e wa ⟨rfl, hb1⟩
         have HB1 := Lib.hid hb1
         clear hb1)
      | (go_at_call 32; (with_reducible refine (HN.out _).mono ?_); rintro e wb ⟨rfl, hb2⟩
         have HB2 : Hid (Below w.heap.size w wb) := Lib.hid (HB1.out.trans (hb2.mono HB1.out.size))
         clear hb2)
      | (go_at_call 37; (with_reducible refine (HW.out _ (HT.out.below HB2.out HT.out.size)).mono ?_); rintro e wc ⟨rfl, hb3⟩
         have HB3 : Hid (Below w.heap.size w wc) := Lib.hid (HB2.out.trans (hb3.mono HB2.out.size))
         clear hb3))
    go_ret
    exact ⟨rfl, HB3.out⟩
  · have e1 : decide (c ≤ 90) = false := by simp; omega
    have e2 : ¬ 103 ≤ c := by omega
    go_enter Tryd.func10, Tryd.ntmps10
    go_wp2_with (first
      | (go_at_call 43; (with_reducible refine HA.out.mono ?_); rintro e wa ⟨rfl, hb1⟩
         have HB1 := Lib.hid hb1
         clear hb1)
      | (go_at_call 32; (with_reducible refine (HN.out _).mono ?_); rintro e wb ⟨rfl, hb2⟩
         have HB2 : Hid (Below w.heap.size w wb) := Lib.hid (HB1.out.trans (hb2.mono HB1.out.size))
         clear hb2)
      | (go_at_call 37; (with_reducible refine (HW.out _ (HT.out.below HB2.out HT.out.size)).mono ?_); rintro e wc ⟨rfl, hb3⟩
         have HB3 : Hid (Below w.heap.size w wc) := Lib.hid (HB2.out.trans (hb3.mono HB2.out.size))
         clear hb3))
    go_ret
    exact ⟨rfl, HB3.out⟩
  · have e1 : decide (c ≤ 90) = false := by simp; omega
    have e2 : decide (c ≤ 138) = false := by simp; omega
    go_enter Tryd.func10, Tryd.ntmps10
    go_wp2_with (first
      | (go_at_call 43; (with_reducible refine HA.out.mono ?_); rintro e wa ⟨rfl, hb1⟩
         have HB1 := Lib.hid hb1
         clear hb1)
      | (go_at_call 32; (with_reducible refine (HN.out _).mono ?_); rintro e wb ⟨rfl, hb2⟩
         have HB2 : Hid (Below w.heap.size w wb) := Lib.hid (HB1.out.trans (hb2.mono HB1.out.size))
         clear hb2)
      | (go_at_call 37; (with_reducible refine (HW.out _ (HT.out.below HB2.out HT.out.size)).mono ?_); rintro e wc ⟨rfl, hb3⟩
         have HB3 : Hid (Below w.heap.size w wc) := Lib.hid (HB2.out.trans (hb3.mono HB2.out.size))
         clear hb3))
    go_ret
    exact ⟨rfl, HB3.out⟩
set_option maxHeartbeats 16000000 in
set_option maxRecDepth 100000 in
theorem numeric_0_32 (c : Int) (hc : (Lit.int .i64 c).wf = true) (k : Nat) (hk : k < 15) (w : World) (hT : Tb w) (hnm : nameL c = kindL 32 ++ (WT0).getD k [])
    (hA : Calls Tryd.prog 43 #[.int .i64 c] w fun e w' => e = .returned (.tuple #[.int .i64 0, .int .i64 k, .int .i64 32, .bool true]) ∧ Below w.heap.size w w') :
    Calls Tryd.prog 10 #[.int .i64 c] w fun e w' => e = .returned (.bool true) ∧ Below w.heap.size w w' := by
  obtain ⟨i9, hi9, hz9, hs9, _⟩ := info_parts info9
  obtain ⟨i72, hi72, hz72, hs72, _⟩ := info_parts info72
  have hb := bounds_i64 hc
  have HA := Lib.hid hA
  have HN := Lib.hid (fun W => RName_any c hc W)
  have HW := Lib.hid awake_any
  have HT := Lib.hid hT
  have HX : Hid (∀ (W : World) g t, Blk W g t (WV WT0) → W.cell? ⟨g, k, none⟩ = some (.string ⟨((WT0).getD k []).toArray⟩)) := Lib.hid (fun W g t hb => wv_at WT0 hb k hk)
  have hcat : (⟨#[105, 51, 50, 46]⟩ ++ ⟨((WT0).getD k []).toArray⟩ : ByteArray) = ⟨(nameL c).toArray⟩ := by rw [hnm, show (⟨#[105, 51, 50, 46]⟩ : ByteArray) = ⟨(kindL 32).toArray⟩ from rfl, cat_eq]
  have hsz := wsz WT0 k (by kernel_rfl)
  generalize (⟨(nameL c).toArray⟩ : ByteArray) = nm at HN hcat
  generalize (⟨((WT0).getD k []).toArray⟩ : ByteArray) = wd at HX hcat hsz
  have hst : (nm.toList == nm.toList) = true := by simp
  have hk0 : (0 : Int) ≤ (k : Int) := by omega
  have hk1 : (k : Int) < 15 := by omega
  clear hA hT hc hnm
  go_enter Tryd.func10, Tryd.ntmps10
  go_wp2_with (first
    | (go_at_call 43; (with_reducible refine HA.out.mono ?_); rintro e wa ⟨rfl, hb1⟩
       have HB1 := Lib.hid hb1
       clear hb1)
    | (go_at_call 32; (with_reducible refine (HN.out _).mono ?_); rintro e wb ⟨rfl, hb2⟩
       have HB2 : Hid (Below w.heap.size w wb) := Lib.hid (HB1.out.trans (hb2.mono HB1.out.size))
       clear hb2)
    | (with_reducible refine wpList_buildSlice rfl 72 9 15 _ rfl (WV WT0) i9 (.string ⟨#[]⟩) Tryd.underlying72 hi9 hz9 ?a1 ?a2 ?a3 ?_
       case a1 => rw [hs9]; decide
       case a2 => rw [hs9]; decide
       case a3 => rw [hs9]; kernel_rfl
       generalize hw4 : wb.alloc (.cells (WV WT0) 9) = w4
       have HK0 : Hid (Blk w4 wb.heap.size 9 (WV WT0)) := Lib.hid (by rw [← hw4]; exact Blk.new _ _ _)
       have HB4 : Hid (Below w.heap.size w w4) := Lib.hid (by rw [← hw4]; exact HB2.out.alloc HB2.out.size _)
       clear hw4)
    | (with_reducible refine wpList_buildSlice rfl 72 9 10 _ rfl (WV WT1) i9 (.string ⟨#[]⟩) Tryd.underlying72 hi9 hz9 ?b1 ?b2 ?b3 ?_
       case b1 => rw [hs9]; decide
       case b2 => rw [hs9]; decide
       case b3 => rw [hs9]; kernel_rfl
       generalize hw5 : w4.alloc (.cells (WV WT1) 9) = w5
       have HK1 : Hid (Blk w5 w4.heap.size 9 (WV WT1)) := Lib.hid (by rw [← hw5]; exact Blk.new _ _ _)
       have HK05 : Hid (Blk w5 wb.heap.size 9 (WV WT0)) := Lib.hid (by rw [← hw5]; exact HK0.out.alloc _)
       have HB5 : Hid (Below w.heap.size w w5) := Lib.hid (by rw [← hw5]; exact HB4.out.alloc HB4.out.size _)
       clear hw5)
    | (with_reducible refine wpList_buildSlice rfl 72 9 4 _ rfl (WV WT2) i9 (.string ⟨#[]⟩) Tryd.underlying72 hi9 hz9 ?c1 ?c2 ?c3 ?_
       case c1 => rw [hs9]; decide
       case c2 => rw [hs9]; decide
       case c3 => rw [hs9]; kernel_rfl
       generalize hw6 : w5.alloc (.cells (WV WT2) 9) = w6
       have HK2 : Hid (Blk w6 w5.heap.size 9 (WV WT2)) := Lib.hid (by rw [← hw6]; exact Blk.new _ _ _)
       have HK06 : Hid (Blk w6 wb.heap.size 9 (WV WT0)) := Lib.hid (by rw [← hw6]; exact HK05.out.alloc _)
       have HK16 : Hid (Blk w6 w4.heap.size 9 (WV WT1)) := Lib.hid (by rw [← hw6]; exact HK1.out.alloc _)
       have HB6 : Hid (Below w.heap.size w w6) := Lib.hid (by rw [← hw6]; exact HB5.out.alloc HB5.out.size _)
       clear hw6)
    | (with_reducible refine wpList_buildSlice rfl 73 72 3 _ rfl #[.slice (some ⟨wb.heap.size, 0, none⟩) 15 15, .slice (some ⟨w4.heap.size, 0, none⟩) 10 10, .slice (some ⟨w5.heap.size, 0, none⟩) 4 4] i72 (.slice none 0 0) Tryd.underlying73 hi72 hz72 ?e1 ?e2 ?e3 ?_
       case e1 => rw [hs72]; decide
       case e2 => rw [hs72]; decide
       case e3 => rw [hs72]; kernel_rfl
       generalize hw7 : w6.alloc (.cells #[.slice (some ⟨wb.heap.size, 0, none⟩) 15 15, .slice (some ⟨w4.heap.size, 0, none⟩) 10 10, .slice (some ⟨w5.heap.size, 0, none⟩) 4 4] 72) = w7
       have HO : Hid (Blk w7 w6.heap.size 72 #[.slice (some ⟨wb.heap.size, 0, none⟩) 15 15, .slice (some ⟨w4.heap.size, 0, none⟩) 10 10, .slice (some ⟨w5.heap.size, 0, none⟩) 4 4]) := Lib.hid (by rw [← hw7]; exact Blk.new _ _ _)
       have o0 := HO.out.cell 0
       simp at o0
       have xk : w7.cell? ⟨wb.heap.size, k, none⟩ = some (.string wd) := HX.out w7 _ 9 (by rw [← hw7]; exact HK06.out.alloc _)
       have HB7 : Hid (Below w.heap.size w w7) := Lib.hid (by rw [← hw7]; exact HB6.out.alloc HB6.out.size _)
       clear hw7)
    | (go_at_call 37; (with_reducible refine (HW.out _ (HT.out.below HB7.out HT.out.size)).mono ?_); rintro e wc ⟨rfl, hb3⟩
       have HB3 : Hid (Below w.heap.size w wc) := Lib.hid (HB7.out.trans (hb3.mono HB7.out.size))
       clear hb3))
  go_ret
  exact ⟨rfl, HB3.out⟩
set_option maxHeartbeats 16000000 in
set_option maxRecDepth 100000 in
theorem numeric_0_64 (c : Int) (hc : (Lit.int .i64 c).wf = true) (k : Nat) (hk : k < 15) (w : World) (hT : Tb w) (hnm : nameL c = kindL 64 ++ (WT0).getD k [])
    (hA : Calls Tryd.prog 43 #[.int .i64 c] w fun e w' => e = .returned (.tuple #[.int .i64 0, .int .i64 k, .int .i64 64, .bool true]) ∧ Below w.heap.size w w') :
    Calls Tryd.prog 10 #[.int .i64 c] w fun e w' => e = .returned (.bool true) ∧ Below w.heap.size w w' := by
  obtain ⟨i9, hi9, hz9, hs9, _⟩ := info_parts info9
  obtain ⟨i72, hi72, hz72, hs72, _⟩ := info_parts info72
  have hb := bounds_i64 hc
  have HA := Lib.hid hA
  have HN := Lib.hid (fun W => RName_any c hc W)
  have HW := Lib.hid awake_any
  have HT := Lib.hid hT
  have HX : Hid (∀ (W : World) g t, Blk W g t (WV WT0) → W.cell? ⟨g, k, none⟩ = some (.string ⟨((WT0).getD k []).toArray⟩)) := Lib.hid (fun W g t hb => wv_at WT0 hb k hk)
  have hcat : (⟨#[105, 54, 52, 46]⟩ ++ ⟨((WT0).getD k []).toArray⟩ : ByteArray) = ⟨(nameL c).toArray⟩ := by rw [hnm, show (⟨#[105, 54, 52, 46]⟩ : ByteArray) = ⟨(kindL 64).toArray⟩ from rfl, cat_eq]
  have hsz := wsz WT0 k (by kernel_rfl)
  generalize (⟨(nameL c).toArray⟩ : ByteArray) = nm at HN hcat
  generalize (⟨((WT0).getD k []).toArray⟩ : ByteArray) = wd at HX hcat hsz
  have hst : (nm.toList == nm.toList) = true := by simp
  have hk0 : (0 : Int) ≤ (k : Int) := by omega
  have hk1 : (k : Int) < 15 := by omega
  clear hA hT hc hnm
  go_enter Tryd.func10, Tryd.ntmps10
  go_wp2_with (first
    | (go_at_call 43; (with_reducible refine HA.out.mono ?_); rintro e wa ⟨rfl, hb1⟩
       have HB1 := Lib.hid hb1
       clear hb1)
    | (go_at_call 32; (with_reducible refine (HN.out _).mono ?_); rintro e wb ⟨rfl, hb2⟩
       have HB2 : Hid (Below w.heap.size w wb) := Lib.hid (HB1.out.trans (hb2.mono HB1.out.size))
       clear hb2)
    | (with_reducible refine wpList_buildSlice rfl 72 9 15 _ rfl (WV WT0) i9 (.string ⟨#[]⟩) Tryd.underlying72 hi9 hz9 ?a1 ?a2 ?a3 ?_
       case a1 => rw [hs9]; decide
       case a2 => rw [hs9]; decide
       case a3 => rw [hs9]; kernel_rfl
       generalize hw4 : wb.alloc (.cells (WV WT0) 9) = w4
       have HK0 : Hid (Blk w4 wb.heap.size 9 (WV WT0)) := Lib.hid (by rw [← hw4]; exact Blk.new _ _ _)
       have HB4 : Hid (Below w.heap.size w w4) := Lib.hid (by rw [← hw4]; exact HB2.out.alloc HB2.out.size _)
       clear hw4)
    | (with_reducible refine wpList_buildSlice rfl 72 9 10 _ rfl (WV WT1) i9 (.string ⟨#[]⟩) Tryd.underlying72 hi9 hz9 ?b1 ?b2 ?b3 ?_
       case b1 => rw [hs9]; decide
       case b2 => rw [hs9]; decide
       case b3 => rw [hs9]; kernel_rfl
       generalize hw5 : w4.alloc (.cells (WV WT1) 9) = w5
       have HK1 : Hid (Blk w5 w4.heap.size 9 (WV WT1)) := Lib.hid (by rw [← hw5]; exact Blk.new _ _ _)
       have HK05 : Hid (Blk w5 wb.heap.size 9 (WV WT0)) := Lib.hid (by rw [← hw5]; exact HK0.out.alloc _)
       have HB5 : Hid (Below w.heap.size w w5) := Lib.hid (by rw [← hw5]; exact HB4.out.alloc HB4.out.size _)
       clear hw5)
    | (with_reducible refine wpList_buildSlice rfl 72 9 4 _ rfl (WV WT2) i9 (.string ⟨#[]⟩) Tryd.underlying72 hi9 hz9 ?c1 ?c2 ?c3 ?_
       case c1 => rw [hs9]; decide
       case c2 => rw [hs9]; decide
       case c3 => rw [hs9]; kernel_rfl
       generalize hw6 : w5.alloc (.cells (WV WT2) 9) = w6
       have HK2 : Hid (Blk w6 w5.heap.size 9 (WV WT2)) := Lib.hid (by rw [← hw6]; exact Blk.new _ _ _)
       have HK06 : Hid (Blk w6 wb.heap.size 9 (WV WT0)) := Lib.hid (by rw [← hw6]; exact HK05.out.alloc _)
       have HK16 : Hid (Blk w6 w4.heap.size 9 (WV WT1)) := Lib.hid (by rw [← hw6]; exact HK1.out.alloc _)
       have HB6 : Hid (Below w.heap.size w w6) := Lib.hid (by rw [← hw6]; exact HB5.out.alloc HB5.out.size _)
       clear hw6)
    | (with_reducible refine wpList_buildSlice rfl 73 72 3 _ rfl #[.slice (some ⟨wb.heap.size, 0, none⟩) 15 15, .slice (some ⟨w4.heap.size, 0, none⟩) 10 10, .slice (some ⟨w5.heap.size, 0, none⟩) 4 4] i72 (.slice none 0 0) Tryd.underlying73 hi72 hz72 ?e1 ?e2 ?e3 ?_
       case e1 => rw [hs72]; decide
       case e2 => rw [hs72]; decide
       case e3 => rw [hs72]; kernel_rfl
       generalize hw7 : w6.alloc (.cells #[.slice (some ⟨wb.heap.size, 0, none⟩) 15 15, .slice (some ⟨w4.heap.size, 0, none⟩) 10 10, .slice (some ⟨w5.heap.size, 0, none⟩) 4 4] 72) = w7
       have HO : Hid (Blk w7 w6.heap.size 72 #[.slice (some ⟨wb.heap.size, 0, none⟩) 15 15, .slice (some ⟨w4.heap.size, 0, none⟩) 10 10, .slice (some ⟨w5.heap.size, 0, none⟩) 4 4]) := Lib.hid (by rw [← hw7]; exact Blk.new _ _ _)
       have o0 := HO.out.cell 0
       simp at o0
       have xk : w7.cell? ⟨wb.heap.size, k, none⟩ = some (.string wd) := HX.out w7 _ 9 (by rw [← hw7]; exact HK06.out.alloc _)
       have HB7 : Hid (Below w.heap.size w w7) := Lib.hid (by rw [← hw7]; exact HB6.out.alloc HB6.out.size _)
       clear hw7)
    | (go_at_call 37; (with_reducible refine (HW.out _ (HT.out.below HB7.out HT.out.size)).mono ?_); rintro e wc ⟨rfl, hb3⟩
       have HB3 : Hid (Below w.heap.size w wc) := Lib.hid (HB7.out.trans (hb3.mono HB7.out.size))
       clear hb3))
  go_ret
  exact ⟨rfl, HB3.out⟩
set_option maxHeartbeats 16000000 in
set_option maxRecDepth 100000 in
theorem numeric_1_32 (c : Int) (hc : (Lit.int .i64 c).wf = true) (k : Nat) (hk : k < 10) (w : World) (hT : Tb w) (hnm : nameL c = kindL 32 ++ (WT1).getD k [])
    (hA : Calls Tryd.prog 43 #[.int .i64 c] w fun e w' => e = .returned (.tuple #[.int .i64 1, .int .i64 k, .int .i64 32, .bool true]) ∧ Below w.heap.size w w') :
    Calls Tryd.prog 10 #[.int .i64 c] w fun e w' => e = .returned (.bool true) ∧ Below w.heap.size w w' := by
  obtain ⟨i9, hi9, hz9, hs9, _⟩ := info_parts info9
  obtain ⟨i72, hi72, hz72, hs72, _⟩ := info_parts info72
  have hb := bounds_i64 hc
  have HA := Lib.hid hA
  have HN := Lib.hid (fun W => RName_any c hc W)
  have HW := Lib.hid awake_any
  have HT := Lib.hid hT
  have HX : Hid (∀ (W : World) g t, Blk W g t (WV WT1) → W.cell? ⟨g, k, none⟩ = some (.string ⟨((WT1).getD k []).toArray⟩)) := Lib.hid (fun W g t hb => wv_at WT1 hb k hk)
  have hcat : (⟨#[105, 51, 50, 46]⟩ ++ ⟨((WT1).getD k []).toArray⟩ : ByteArray) = ⟨(nameL c).toArray⟩ := by rw [hnm, show (⟨#[105, 51, 50, 46]⟩ : ByteArray) = ⟨(kindL 32).toArray⟩ from rfl, cat_eq]
  have hsz := wsz WT1 k (by kernel_rfl)
  generalize (⟨(nameL c).toArray⟩ : ByteArray) = nm at HN hcat
  generalize (⟨((WT1).getD k []).toArray⟩ : ByteArray) = wd at HX hcat hsz
  have hst : (nm.toList == nm.toList) = true := by simp
  have hk0 : (0 : Int) ≤ (k : Int) := by omega
  have hk1 : (k : Int) < 10 := by omega
  clear hA hT hc hnm
  go_enter Tryd.func10, Tryd.ntmps10
  go_wp2_with (first
    | (go_at_call 43; (with_reducible refine HA.out.mono ?_); rintro e wa ⟨rfl, hb1⟩
       have HB1 := Lib.hid hb1
       clear hb1)
    | (go_at_call 32; (with_reducible refine (HN.out _).mono ?_); rintro e wb ⟨rfl, hb2⟩
       have HB2 : Hid (Below w.heap.size w wb) := Lib.hid (HB1.out.trans (hb2.mono HB1.out.size))
       clear hb2)
    | (with_reducible refine wpList_buildSlice rfl 72 9 15 _ rfl (WV WT0) i9 (.string ⟨#[]⟩) Tryd.underlying72 hi9 hz9 ?a1 ?a2 ?a3 ?_
       case a1 => rw [hs9]; decide
       case a2 => rw [hs9]; decide
       case a3 => rw [hs9]; kernel_rfl
       generalize hw4 : wb.alloc (.cells (WV WT0) 9) = w4
       have HK0 : Hid (Blk w4 wb.heap.size 9 (WV WT0)) := Lib.hid (by rw [← hw4]; exact Blk.new _ _ _)
       have HB4 : Hid (Below w.heap.size w w4) := Lib.hid (by rw [← hw4]; exact HB2.out.alloc HB2.out.size _)
       clear hw4)
    | (with_reducible refine wpList_buildSlice rfl 72 9 10 _ rfl (WV WT1) i9 (.string ⟨#[]⟩) Tryd.underlying72 hi9 hz9 ?b1 ?b2 ?b3 ?_
       case b1 => rw [hs9]; decide
       case b2 => rw [hs9]; decide
       case b3 => rw [hs9]; kernel_rfl
       generalize hw5 : w4.alloc (.cells (WV WT1) 9) = w5
       have HK1 : Hid (Blk w5 w4.heap.size 9 (WV WT1)) := Lib.hid (by rw [← hw5]; exact Blk.new _ _ _)
       have HK05 : Hid (Blk w5 wb.heap.size 9 (WV WT0)) := Lib.hid (by rw [← hw5]; exact HK0.out.alloc _)
       have HB5 : Hid (Below w.heap.size w w5) := Lib.hid (by rw [← hw5]; exact HB4.out.alloc HB4.out.size _)
       clear hw5)
    | (with_reducible refine wpList_buildSlice rfl 72 9 4 _ rfl (WV WT2) i9 (.string ⟨#[]⟩) Tryd.underlying72 hi9 hz9 ?c1 ?c2 ?c3 ?_
       case c1 => rw [hs9]; decide
       case c2 => rw [hs9]; decide
       case c3 => rw [hs9]; kernel_rfl
       generalize hw6 : w5.alloc (.cells (WV WT2) 9) = w6
       have HK2 : Hid (Blk w6 w5.heap.size 9 (WV WT2)) := Lib.hid (by rw [← hw6]; exact Blk.new _ _ _)
       have HK06 : Hid (Blk w6 wb.heap.size 9 (WV WT0)) := Lib.hid (by rw [← hw6]; exact HK05.out.alloc _)
       have HK16 : Hid (Blk w6 w4.heap.size 9 (WV WT1)) := Lib.hid (by rw [← hw6]; exact HK1.out.alloc _)
       have HB6 : Hid (Below w.heap.size w w6) := Lib.hid (by rw [← hw6]; exact HB5.out.alloc HB5.out.size _)
       clear hw6)
    | (with_reducible refine wpList_buildSlice rfl 73 72 3 _ rfl #[.slice (some ⟨wb.heap.size, 0, none⟩) 15 15, .slice (some ⟨w4.heap.size, 0, none⟩) 10 10, .slice (some ⟨w5.heap.size, 0, none⟩) 4 4] i72 (.slice none 0 0) Tryd.underlying73 hi72 hz72 ?e1 ?e2 ?e3 ?_
       case e1 => rw [hs72]; decide
       case e2 => rw [hs72]; decide
       case e3 => rw [hs72]; kernel_rfl
       generalize hw7 : w6.alloc (.cells #[.slice (some ⟨wb.heap.size, 0, none⟩) 15 15, .slice (some ⟨w4.heap.size, 0, none⟩) 10 10, .slice (some ⟨w5.heap.size, 0, none⟩) 4 4] 72) = w7
       have HO : Hid (Blk w7 w6.heap.size 72 #[.slice (some ⟨wb.heap.size, 0, none⟩) 15 15, .slice (some ⟨w4.heap.size, 0, none⟩) 10 10, .slice (some ⟨w5.heap.size, 0, none⟩) 4 4]) := Lib.hid (by rw [← hw7]; exact Blk.new _ _ _)
       have o1 := HO.out.cell 1
       simp at o1
       have xk : w7.cell? ⟨w4.heap.size, k, none⟩ = some (.string wd) := HX.out w7 _ 9 (by rw [← hw7]; exact HK16.out.alloc _)
       have HB7 : Hid (Below w.heap.size w w7) := Lib.hid (by rw [← hw7]; exact HB6.out.alloc HB6.out.size _)
       clear hw7)
    | (go_at_call 37; (with_reducible refine (HW.out _ (HT.out.below HB7.out HT.out.size)).mono ?_); rintro e wc ⟨rfl, hb3⟩
       have HB3 : Hid (Below w.heap.size w wc) := Lib.hid (HB7.out.trans (hb3.mono HB7.out.size))
       clear hb3))
  go_ret
  exact ⟨rfl, HB3.out⟩
set_option maxHeartbeats 16000000 in
set_option maxRecDepth 100000 in
theorem numeric_1_64 (c : Int) (hc : (Lit.int .i64 c).wf = true) (k : Nat) (hk : k < 10) (w : World) (hT : Tb w) (hnm : nameL c = kindL 64 ++ (WT1).getD k [])
    (hA : Calls Tryd.prog 43 #[.int .i64 c] w fun e w' => e = .returned (.tuple #[.int .i64 1, .int .i64 k, .int .i64 64, .bool true]) ∧ Below w.heap.size w w') :
    Calls Tryd.prog 10 #[.int .i64 c] w fun e w' => e = .returned (.bool true) ∧ Below w.heap.size w w' := by
  obtain ⟨i9, hi9, hz9, hs9, _⟩ := info_parts info9
  obtain ⟨i72, hi72, hz72, hs72, _⟩ := info_parts info72
  have hb := bounds_i64 hc
  have HA := Lib.hid hA
  have HN := Lib.hid (fun W => RName_any c hc W)
  have HW := Lib.hid awake_any
  have HT := Lib.hid hT
  have HX : Hid (∀ (W : World) g t, Blk W g t (WV WT1) → W.cell? ⟨g, k, none⟩ = some (.string ⟨((WT1).getD k []).toArray⟩)) := Lib.hid (fun W g t hb => wv_at WT1 hb k hk)
  have hcat : (⟨#[105, 54, 52, 46]⟩ ++ ⟨((WT1).getD k []).toArray⟩ : ByteArray) = ⟨(nameL c).toArray⟩ := by rw [hnm, show (⟨#[105, 54, 52, 46]⟩ : ByteArray) = ⟨(kindL 64).toArray⟩ from rfl, cat_eq]
  have hsz := wsz WT1 k (by kernel_rfl)
  generalize (⟨(nameL c).toArray⟩ : ByteArray) = nm at HN hcat
  generalize (⟨((WT1).getD k []).toArray⟩ : ByteArray) = wd at HX hcat hsz
  have hst : (nm.toList == nm.toList) = true := by simp
  have hk0 : (0 : Int) ≤ (k : Int) := by omega
  have hk1 : (k : Int) < 10 := by omega
  clear hA hT hc hnm
  go_enter Tryd.func10, Tryd.ntmps10
  go_wp2_with (first
    | (go_at_call 43; (with_reducible refine HA.out.mono ?_); rintro e wa ⟨rfl, hb1⟩
       have HB1 := Lib.hid hb1
       clear hb1)
    | (go_at_call 32; (with_reducible refine (HN.out _).mono ?_); rintro e wb ⟨rfl, hb2⟩
       have HB2 : Hid (Below w.heap.size w wb) := Lib.hid (HB1.out.trans (hb2.mono HB1.out.size))
       clear hb2)
    | (with_reducible refine wpList_buildSlice rfl 72 9 15 _ rfl (WV WT0) i9 (.string ⟨#[]⟩) Tryd.underlying72 hi9 hz9 ?a1 ?a2 ?a3 ?_
       case a1 => rw [hs9]; decide
       case a2 => rw [hs9]; decide
       case a3 => rw [hs9]; kernel_rfl
       generalize hw4 : wb.alloc (.cells (WV WT0) 9) = w4
       have HK0 : Hid (Blk w4 wb.heap.size 9 (WV WT0)) := Lib.hid (by rw [← hw4]; exact Blk.new _ _ _)
       have HB4 : Hid (Below w.heap.size w w4) := Lib.hid (by rw [← hw4]; exact HB2.out.alloc HB2.out.size _)
       clear hw4)
    | (with_reducible refine wpList_buildSlice rfl 72 9 10 _ rfl (WV WT1) i9 (.string ⟨#[]⟩) Tryd.underlying72 hi9 hz9 ?b1 ?b2 ?b3 ?_
       case b1 => rw [hs9]; decide
       case b2 => rw [hs9]; decide
       case b3 => rw [hs9]; kernel_rfl
       generalize hw5 : w4.alloc (.cells (WV WT1) 9) = w5
       have HK1 : Hid (Blk w5 w4.heap.size 9 (WV WT1)) := Lib.hid (by rw [← hw5]; exact Blk.new _ _ _)
       have HK05 : Hid (Blk w5 wb.heap.size 9 (WV WT0)) := Lib.hid (by rw [← hw5]; exact HK0.out.alloc _)
       have HB5 : Hid (Below w.heap.size w w5) := Lib.hid (by rw [← hw5]; exact HB4.out.alloc HB4.out.size _)
       clear hw5)
    | (with_reducible refine wpList_buildSlice rfl 72 9 4 _ rfl (WV WT2) i9 (.string ⟨#[]⟩) Tryd.underlying72 hi9 hz9 ?c1 ?c2 ?c3 ?_
       case c1 => rw [hs9]; decide
       case c2 => rw [hs9]; decide
       case c3 => rw [hs9]; kernel_rfl
       generalize hw6 : w5.alloc (.cells (WV WT2) 9) = w6
       have HK2 : Hid (Blk w6 w5.heap.size 9 (WV WT2)) := Lib.hid (by rw [← hw6]; exact Blk.new _ _ _)
       have HK06 : Hid (Blk w6 wb.heap.size 9 (WV WT0)) := Lib.hid (by rw [← hw6]; exact HK05.out.alloc _)
       have HK16 : Hid (Blk w6 w4.heap.size 9 (WV WT1)) := Lib.hid (by rw [← hw6]; exact HK1.out.alloc _)
       have HB6 : Hid (Below w.heap.size w w6) := Lib.hid (by rw [← hw6]; exact HB5.out.alloc HB5.out.size _)
       clear hw6)
    | (with_reducible refine wpList_buildSlice rfl 73 72 3 _ rfl #[.slice (some ⟨wb.heap.size, 0, none⟩) 15 15, .slice (some ⟨w4.heap.size, 0, none⟩) 10 10, .slice (some ⟨w5.heap.size, 0, none⟩) 4 4] i72 (.slice none 0 0) Tryd.underlying73 hi72 hz72 ?e1 ?e2 ?e3 ?_
       case e1 => rw [hs72]; decide
       case e2 => rw [hs72]; decide
       case e3 => rw [hs72]; kernel_rfl
       generalize hw7 : w6.alloc (.cells #[.slice (some ⟨wb.heap.size, 0, none⟩) 15 15, .slice (some ⟨w4.heap.size, 0, none⟩) 10 10, .slice (some ⟨w5.heap.size, 0, none⟩) 4 4] 72) = w7
       have HO : Hid (Blk w7 w6.heap.size 72 #[.slice (some ⟨wb.heap.size, 0, none⟩) 15 15, .slice (some ⟨w4.heap.size, 0, none⟩) 10 10, .slice (some ⟨w5.heap.size, 0, none⟩) 4 4]) := Lib.hid (by rw [← hw7]; exact Blk.new _ _ _)
       have o1 := HO.out.cell 1
       simp at o1
       have xk : w7.cell? ⟨w4.heap.size, k, none⟩ = some (.string wd) := HX.out w7 _ 9 (by rw [← hw7]; exact HK16.out.alloc _)
       have HB7 : Hid (Below w.heap.size w w7) := Lib.hid (by rw [← hw7]; exact HB6.out.alloc HB6.out.size _)
       clear hw7)
    | (go_at_call 37; (with_reducible refine (HW.out _ (HT.out.below HB7.out HT.out.size)).mono ?_); rintro e wc ⟨rfl, hb3⟩
       have HB3 : Hid (Below w.heap.size w wc) := Lib.hid (HB7.out.trans (hb3.mono HB7.out.size))
       clear hb3))
  go_ret
  exact ⟨rfl, HB3.out⟩
set_option maxHeartbeats 16000000 in
set_option maxRecDepth 100000 in
theorem numeric_2_32 (c : Int) (hc : (Lit.int .i64 c).wf = true) (k : Nat) (hk : k < 4) (w : World) (hT : Tb w) (hnm : nameL c = kindL 32 ++ (WT2).getD k [])
    (hA : Calls Tryd.prog 43 #[.int .i64 c] w fun e w' => e = .returned (.tuple #[.int .i64 2, .int .i64 k, .int .i64 32, .bool true]) ∧ Below w.heap.size w w') :
    Calls Tryd.prog 10 #[.int .i64 c] w fun e w' => e = .returned (.bool true) ∧ Below w.heap.size w w' := by
  obtain ⟨i9, hi9, hz9, hs9, _⟩ := info_parts info9
  obtain ⟨i72, hi72, hz72, hs72, _⟩ := info_parts info72
  have hb := bounds_i64 hc
  have HA := Lib.hid hA
  have HN := Lib.hid (fun W => RName_any c hc W)
  have HW := Lib.hid awake_any
  have HT := Lib.hid hT
  have HX : Hid (∀ (W : World) g t, Blk W g t (WV WT2) → W.cell? ⟨g, k, none⟩ = some (.string ⟨((WT2).getD k []).toArray⟩)) := Lib.hid (fun W g t hb => wv_at WT2 hb k hk)
  have hcat : (⟨#[105, 51, 50, 46]⟩ ++ ⟨((WT2).getD k []).toArray⟩ : ByteArray) = ⟨(nameL c).toArray⟩ := by rw [hnm, show (⟨#[105, 51, 50, 46]⟩ : ByteArray) = ⟨(kindL 32).toArray⟩ from rfl, cat_eq]
  have hsz := wsz WT2 k (by kernel_rfl)
  generalize (⟨(nameL c).toArray⟩ : ByteArray) = nm at HN hcat
  generalize (⟨((WT2).getD k []).toArray⟩ : ByteArray) = wd at HX hcat hsz
  have hst : (nm.toList == nm.toList) = true := by simp
  have hk0 : (0 : Int) ≤ (k : Int) := by omega
  have hk1 : (k : Int) < 4 := by omega
  clear hA hT hc hnm
  go_enter Tryd.func10, Tryd.ntmps10
  go_wp2_with (first
    | (go_at_call 43; (with_reducible refine HA.out.mono ?_); rintro e wa ⟨rfl, hb1⟩
       have HB1 := Lib.hid hb1
       clear hb1)
    | (go_at_call 32; (with_reducible refine (HN.out _).mono ?_); rintro e wb ⟨rfl, hb2⟩
       have HB2 : Hid (Below w.heap.size w wb) := Lib.hid (HB1.out.trans (hb2.mono HB1.out.size))
       clear hb2)
    | (with_reducible refine wpList_buildSlice rfl 72 9 15 _ rfl (WV WT0) i9 (.string ⟨#[]⟩) Tryd.underlying72 hi9 hz9 ?a1 ?a2 ?a3 ?_
       case a1 => rw [hs9]; decide
       case a2 => rw [hs9]; decide
       case a3 => rw [hs9]; kernel_rfl
       generalize hw4 : wb.alloc (.cells (WV WT0) 9) = w4
       have HK0 : Hid (Blk w4 wb.heap.size 9 (WV WT0)) := Lib.hid (by rw [← hw4]; exact Blk.new _ _ _)
       have HB4 : Hid (Below w.heap.size w w4) := Lib.hid (by rw [← hw4]; exact HB2.out.alloc HB2.out.size _)
       clear hw4)
    | (with_reducible refine wpList_buildSlice rfl 72 9 10 _ rfl (WV WT1) i9 (.string ⟨#[]⟩) Tryd.underlying72 hi9 hz9 ?b1 ?b2 ?b3 ?_
       case b1 => rw [hs9]; decide
       case b2 => rw [hs9]; decide
       case b3 => rw [hs9]; kernel_rfl
       generalize hw5 : w4.alloc (.cells (WV WT1) 9) = w5
       have HK1 : Hid (Blk w5 w4.heap.size 9 (WV WT1)) := Lib.hid (by rw [← hw5]; exact Blk.new _ _ _)
       have HK05 : Hid (Blk w5 wb.heap.size 9 (WV WT0)) := Lib.hid (by rw [← hw5]; exact HK0.out.alloc _)
       have HB5 : Hid (Below w.heap.size w w5) := Lib.hid (by rw [← hw5]; exact HB4.out.alloc HB4.out.size _)
       clear hw5)
    | (with_reducible refine wpList_buildSlice rfl 72 9 4 _ rfl (WV WT2) i9 (.string ⟨#[]⟩) Tryd.underlying72 hi9 hz9 ?c1 ?c2 ?c3 ?_
       case c1 => rw [hs9]; decide
       case c2 => rw [hs9]; decide
       case c3 => rw [hs9]; kernel_rfl
       generalize hw6 : w5.alloc (.cells (WV WT2) 9) = w6
       have HK2 : Hid (Blk w6 w5.heap.size 9 (WV WT2)) := Lib.hid (by rw [← hw6]; exact Blk.new _ _ _)
       have HK06 : Hid (Blk w6 wb.heap.size 9 (WV WT0)) := Lib.hid (by rw [← hw6]; exact HK05.out.alloc _)
       have HK16 : Hid (Blk w6 w4.heap.size 9 (WV WT1)) := Lib.hid (by rw [← hw6]; exact HK1.out.alloc _)
       have HB6 : Hid (Below w.heap.size w w6) := Lib.hid (by rw [← hw6]; exact HB5.out.alloc HB5.out.size _)
       clear hw6)
    | (with_reducible refine wpList_buildSlice rfl 73 72 3 _ rfl #[.slice (some ⟨wb.heap.size, 0, none⟩) 15 15, .slice (some ⟨w4.heap.size, 0, none⟩) 10 10, .slice (some ⟨w5.heap.size, 0, none⟩) 4 4] i72 (.slice none 0 0) Tryd.underlying73 hi72 hz72 ?e1 ?e2 ?e3 ?_
       case e1 => rw [hs72]; decide
       case e2 => rw [hs72]; decide
       case e3 => rw [hs72]; kernel_rfl
       generalize hw7 : w6.alloc (.cells #[.slice (some ⟨wb.heap.size, 0, none⟩) 15 15, .slice (some ⟨w4.heap.size, 0, none⟩) 10 10, .slice (some ⟨w5.heap.size, 0, none⟩) 4 4] 72) = w7
       have HO : Hid (Blk w7 w6.heap.size 72 #[.slice (some ⟨wb.heap.size, 0, none⟩) 15 15, .slice (some ⟨w4.heap.size, 0, none⟩) 10 10, .slice (some ⟨w5.heap.size, 0, none⟩) 4 4]) := Lib.hid (by rw [← hw7]; exact Blk.new _ _ _)
       have o2 := HO.out.cell 2
       simp at o2
       have xk : w7.cell? ⟨w5.heap.size, k, none⟩ = some (.string wd) := HX.out w7 _ 9 (by rw [← hw7]; exact HK2.out.alloc _)
       have HB7 : Hid (Below w.heap.size w w7) := Lib.hid (by rw [← hw7]; exact HB6.out.alloc HB6.out.size _)
       clear hw7)
    | (go_at_call 37; (with_reducible refine (HW.out _ (HT.out.below HB7.out HT.out.size)).mono ?_); rintro e wc ⟨rfl, hb3⟩
       have HB3 : Hid (Below w.heap.size w wc) := Lib.hid (HB7.out.trans (hb3.mono HB7.out.size))
       clear hb3))
  go_ret
  exact ⟨rfl, HB3.out⟩
set_option maxHeartbeats 16000000 in
set_option maxRecDepth 100000 in
theorem numeric_2_64 (c : Int) (hc : (Lit.int .i64 c).wf = true) (k : Nat) (hk : k < 4) (w : World) (hT : Tb w) (hnm : nameL c = kindL 64 ++ (WT2).getD k [])
    (hA : Calls Tryd.prog 43 #[.int .i64 c] w fun e w' => e = .returned (.tuple #[.int .i64 2, .int .i64 k, .int .i64 64, .bool true]) ∧ Below w.heap.size w w') :
    Calls Tryd.prog 10 #[.int .i64 c] w fun e w' => e = .returned (.bool true) ∧ Below w.heap.size w w' := by
  obtain ⟨i9, hi9, hz9, hs9, _⟩ := info_parts info9
  obtain ⟨i72, hi72, hz72, hs72, _⟩ := info_parts info72
  have hb := bounds_i64 hc
  have HA := Lib.hid hA
  have HN := Lib.hid (fun W => RName_any c hc W)
  have HW := Lib.hid awake_any
  have HT := Lib.hid hT
  have HX : Hid (∀ (W : World) g t, Blk W g t (WV WT2) → W.cell? ⟨g, k, none⟩ = some (.string ⟨((WT2).getD k []).toArray⟩)) := Lib.hid (fun W g t hb => wv_at WT2 hb k hk)
  have hcat : (⟨#[105, 54, 52, 46]⟩ ++ ⟨((WT2).getD k []).toArray⟩ : ByteArray) = ⟨(nameL c).toArray⟩ := by rw [hnm, show (⟨#[105, 54, 52, 46]⟩ : ByteArray) = ⟨(kindL 64).toArray⟩ from rfl, cat_eq]
  have hsz := wsz WT2 k (by kernel_rfl)
  generalize (⟨(nameL c).toArray⟩ : ByteArray) = nm at HN hcat
  generalize (⟨((WT2).getD k []).toArray⟩ : ByteArray) = wd at HX hcat hsz
  have hst : (nm.toList == nm.toList) = true := by simp
  have hk0 : (0 : Int) ≤ (k : Int) := by omega
  have hk1 : (k : Int) < 4 := by omega
  clear hA hT hc hnm
  go_enter Tryd.func10, Tryd.ntmps10
  go_wp2_with (first
    | (go_at_call 43; (with_reducible refine HA.out.mono ?_); rintro e wa ⟨rfl, hb1⟩
       have HB1 := Lib.hid hb1
       clear hb1)
    | (go_at_call 32; (with_reducible refine (HN.out _).mono ?_); rintro e wb ⟨rfl, hb2⟩
       have HB2 : Hid (Below w.heap.size w wb) := Lib.hid (HB1.out.trans (hb2.mono HB1.out.size))
       clear hb2)
    | (with_reducible refine wpList_buildSlice rfl 72 9 15 _ rfl (WV WT0) i9 (.string ⟨#[]⟩) Tryd.underlying72 hi9 hz9 ?a1 ?a2 ?a3 ?_
       case a1 => rw [hs9]; decide
       case a2 => rw [hs9]; decide
       case a3 => rw [hs9]; kernel_rfl
       generalize hw4 : wb.alloc (.cells (WV WT0) 9) = w4
       have HK0 : Hid (Blk w4 wb.heap.size 9 (WV WT0)) := Lib.hid (by rw [← hw4]; exact Blk.new _ _ _)
       have HB4 : Hid (Below w.heap.size w w4) := Lib.hid (by rw [← hw4]; exact HB2.out.alloc HB2.out.size _)
       clear hw4)
    | (with_reducible refine wpList_buildSlice rfl 72 9 10 _ rfl (WV WT1) i9 (.string ⟨#[]⟩) Tryd.underlying72 hi9 hz9 ?b1 ?b2 ?b3 ?_
       case b1 => rw [hs9]; decide
       case b2 => rw [hs9]; decide
       case b3 => rw [hs9]; kernel_rfl
       generalize hw5 : w4.alloc (.cells (WV WT1) 9) = w5
       have HK1 : Hid (Blk w5 w4.heap.size 9 (WV WT1)) := Lib.hid (by rw [← hw5]; exact Blk.new _ _ _)
       have HK05 : Hid (Blk w5 wb.heap.size 9 (WV WT0)) := Lib.hid (by rw [← hw5]; exact HK0.out.alloc _)
       have HB5 : Hid (Below w.heap.size w w5) := Lib.hid (by rw [← hw5]; exact HB4.out.alloc HB4.out.size _)
       clear hw5)
    | (with_reducible refine wpList_buildSlice rfl 72 9 4 _ rfl (WV WT2) i9 (.string ⟨#[]⟩) Tryd.underlying72 hi9 hz9 ?c1 ?c2 ?c3 ?_
       case c1 => rw [hs9]; decide
       case c2 => rw [hs9]; decide
       case c3 => rw [hs9]; kernel_rfl
       generalize hw6 : w5.alloc (.cells (WV WT2) 9) = w6
       have HK2 : Hid (Blk w6 w5.heap.size 9 (WV WT2)) := Lib.hid (by rw [← hw6]; exact Blk.new _ _ _)
       have HK06 : Hid (Blk w6 wb.heap.size 9 (WV WT0)) := Lib.hid (by rw [← hw6]; exact HK05.out.alloc _)
       have HK16 : Hid (Blk w6 w4.heap.size 9 (WV WT1)) := Lib.hid (by rw [← hw6]; exact HK1.out.alloc _)
       have HB6 : Hid (Below w.heap.size w w6) := Lib.hid (by rw [← hw6]; exact HB5.out.alloc HB5.out.size _)
       clear hw6)
    | (with_reducible refine wpList_buildSlice rfl 73 72 3 _ rfl #[.slice (some ⟨wb.heap.size, 0, none⟩) 15 15, .slice (some ⟨w4.heap.size, 0, none⟩) 10 10, .slice (some ⟨w5.heap.size, 0, none⟩) 4 4] i72 (.slice none 0 0) Tryd.underlying73 hi72 hz72 ?e1 ?e2 ?e3 ?_
       case e1 => rw [hs72]; decide
       case e2 => rw [hs72]; decide
       case e3 => rw [hs72]; kernel_rfl
       generalize hw7 : w6.alloc (.cells #[.slice (some ⟨wb.heap.size, 0, none⟩) 15 15, .slice (some ⟨w4.heap.size, 0, none⟩) 10 10, .slice (some ⟨w5.heap.size, 0, none⟩) 4 4] 72) = w7
       have HO : Hid (Blk w7 w6.heap.size 72 #[.slice (some ⟨wb.heap.size, 0, none⟩) 15 15, .slice (some ⟨w4.heap.size, 0, none⟩) 10 10, .slice (some ⟨w5.heap.size, 0, none⟩) 4 4]) := Lib.hid (by rw [← hw7]; exact Blk.new _ _ _)
       have o2 := HO.out.cell 2
       simp at o2
       have xk : w7.cell? ⟨w5.heap.size, k, none⟩ = some (.string wd) := HX.out w7 _ 9 (by rw [← hw7]; exact HK2.out.alloc _)
       have HB7 : Hid (Below w.heap.size w w7) := Lib.hid (by rw [← hw7]; exact HB6.out.alloc HB6.out.size _)
       clear hw7)
    | (go_at_call 37; (with_reducible refine (HW.out _ (HT.out.below HB7.out HT.out.size)).mono ?_); rintro e wc ⟨rfl, hb3⟩
       have HB3 : Hid (Below w.heap.size w wc) := Lib.hid (HB7.out.trans (hb3.mono HB7.out.size))
       clear hb3))
  go_ret
  exact ⟨rfl, HB3.out⟩
end Go.Proofs.YtalpkdnnclghaaaDoor
