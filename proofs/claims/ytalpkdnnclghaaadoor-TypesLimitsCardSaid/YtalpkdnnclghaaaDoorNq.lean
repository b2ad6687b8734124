/-
  The document's reading of types.
-/
import Derived.Test.YtalpkdnnclghaaaDoorNp
import Derived.OwnWalk
import Derived.PlainAid
namespace Go.Proofs.YtalpkdnnclghaaaDoor
open Go.RowKit Go.ChangeShapes Go.WideShapes Go.ChangeAt Go.PlainAid
set_option linter.unusedVariables false
set_option linter.unusedSimpArgs false
/-- the types read, and where they end -/
def TyP (o : Option (List Nat × List UInt8)) (n : Nat) (w : World) (e : Ending) (w' : World) : Prop :=
  match o with
  | none => e = .returned (.tuple #[.slice none 0 0, .int .i64 (-1)]) ∧ Below w.heap.size w w'
  | some (M, q) => ∃ v, e = .returned (.tuple #[v, .int .i64 ((n - q.length : Nat) : Int)]) ∧ q.length ≤ n ∧ w'.ownsRow w.heap.size 5 1 v M.length (M.map U8) ∧ Below w.heap.size w w'
theorem info5 : (Tryd.prog.info? 5).map (fun i => (i.zero, i.size, i.bytes)) = some (some (.int .u8 0), 1, 1) := by kernel_rfl
theorem bt_bs (s : List UInt8) (k : Nat) : bt (bs s) k = ((s.getD k 0).toNat : Int) := by
  unfold bt
  by_cases h : k < (bs s).size
  · rw [dif_pos h]
    have h' : k < s.length := by rwa [bs_size] at h
    rw [List.getD_eq_getElem?_getD, List.getElem?_eq_getElem h']
    rfl
  · rw [dif_neg h]
    have h' : s.length ≤ k := by rw [bs_size] at h; omega
    rw [List.getD_eq_getElem?_getD, List.getElem?_eq_none h']; rfl
theorem ext_bs (s : List UInt8) (a b : Nat) : ((bs s).extract a b).toList = (s.drop a).take (b - a) := by
  rw [Lib.extract_toList]; rfl
theorem drop_getD (s : List UInt8) (k j : Nat) : (s.drop k).getD j 0 = s.getD (k + j) 0 := by
  rw [List.getD_eq_getElem?_getD, List.getD_eq_getElem?_getD, List.getElem?_drop]
theorem u8_toNat (c : UInt8) (n : Nat) (hn : n < 256) : ((c.toNat : Int) == (n : Int)) = (c == UInt8.ofNat n) := by
  rw [Bool.eq_iff_iff, beq_iff_eq, beq_iff_eq]
  constructor
  · intro h; apply UInt8.toNat_inj.1; rw [UInt8.toNat_ofNat_of_lt' (by simpa using hn)]; omega
  · intro h; rw [h, UInt8.toNat_ofNat_of_lt' (by simpa using hn)]
/-- one step of the document's reading -/
theorem rgo_step (f : Nat) (L : List Nat) (r : List UInt8) : rgo (f + 1) L r =
    if (decide (0 < r.length) && r.getD 0 0 == 41 && L.isEmpty) = true then some ([], r.drop 1)
    else if r.length < 4 then none
    else match nm3 r with
      | none => none
      | some t => if r.getD 3 0 = 41 then some (L ++ [t], r.drop 4) else if r.getD 3 0 = 44 then rgo f (L ++ [t]) (r.drop 4) else none := rfl
theorem u8_41 (c : UInt8) : ((c.toNat : Int) == 41) = (c == 41) := u8_toNat c 41 (by decide)
theorem u8_44 (c : UInt8) : ((c.toNat : Int) == 44) = (c == 44) := u8_toNat c 44 (by decide)
theorem u8_40 (c : UInt8) : ((c.toNat : Int) == 40) = (c == 40) := u8_toNat c 40 (by decide)
set_option maxHeartbeats 8000000 in
set_option maxRecDepth 100000 in
theorem types_any (s : List UInt8) (hs : s.length ≤ 300) (k0 : Nat) (w : World) :
    Calls Tryd.prog 49 #[.string (bs s), .int .i64 k0] w (TyP (rT (s.drop k0)) s.length w) := by
  obtain ⟨i0, hi, hz0, hz1, hz2⟩ := info_parts info5
  have hb := get_bt (bs s)
  have HBT := Lib.hid (bt_bs s)
  have hsz := bs_size s
  have HEX := Lib.hid (ext_bs s)
  obtain ⟨tot, htot⟩ : ∃ tot, tot = rT (s.drop k0) := ⟨_, rfl⟩
  rw [← htot]
  generalize bs s = S at hb HBT hsz HEX
  by_cases hc : k0 < s.length ∧ s.getD k0 0 = 40
  · obtain ⟨h1, h2⟩ := hc
    have HT : Hid (tot = rgo (s.length - k0) [] (s.drop (k0 + 1))) := Lib.hid (by
      rw [htot, rT, if_pos (by rw [drop_getD, Nat.add_zero, h2]; simp; omega), List.length_drop, List.drop_drop])
    have e1 : (bt S k0 != 40) = false := by
      show (!(bt S k0 == 40)) = false
      rw [HBT.out, u8_40, h2]; rfl
    have e0 : decide (S.size ≤ k0) = false := by simp; omega
    have e2 : (k0 : Int) < (S.size : Int) := by omega
    have hsz2 : S.size ≤ 300 := by omega
    have HSZ := Lib.hid hsz
    clear htot h2 hsz
    go_enter Tryd.func49, Tryd.ntmps49
    go_wp2
    clear e0 e1 e2
    go_loopw [1, 6] (fun v1 v6 wr => ∃ k : Nat, ∃ L : List Nat, ∃ f : Nat, k ≤ S.size ∧ v1 = .int .i64 k ∧ Hid (S.size - k < f) ∧ Hid (tot = rgo f L (s.drop k)) ∧ Hid (wr.ownsRow w.heap.size 5 1 v6 L.length (L.map U8)) ∧ Hid (Below w.heap.size w wr) ∧ L.length ≤ k) (fun v1 _ _ => S.size - (intOf v1).toNat)
    case atStart => exact ⟨k0 + 1, [], s.length - k0, by have := HSZ.out; omega, by go_num, Lib.hid (by have := HSZ.out; omega), HT, Lib.hid (World.ownsRow_nil _ _ _ _), Lib.hid (Below.refl _ _), by simp⟩
    case round =>
      clear HT h1
      obtain ⟨k, L, f, hk, rfl, HF, HT, HO, HB, hLk⟩ := hrel
      obtain ⟨f, rfl⟩ : ∃ g, f = g + 1 := ⟨f - 1, by have := HF.out; omega⟩
      have HT2 := Lib.hid (HT.out.trans (rgo_step f L (s.drop k)))
      obtain ⟨A9, c9, rfl⟩ := own_slice HO.out
      clear HT
      by_cases hA : k < S.size ∧ s.getD k 0 = 41 ∧ L = []
      · obtain ⟨h1, h2, rfl⟩ := hA
        have e1 : (bt S k == 41) = true := by rw [HBT.out, u8_41, h2]; rfl
        have e2 : (k : Int) < (S.size : Int) := by omega
        have HR : Hid (tot = some ([], s.drop (k + 1))) := Lib.hid (by
          rw [HT2.out, if_pos (by rw [drop_getD, Nat.add_zero, h2]; have := HSZ.out; simp; omega), List.drop_drop])
        have e3 : ((([] : List Nat).length : Nat) : Int) = 0 := rfl
        clear HT2 h2
        go_wp2
        go_ret2
        show TyP tot s.length w _ _
        rw [HR.out]
        refine ⟨_, ?_, ?_, World.ownsRow_nil _ _ _ _, HB.out⟩
        · rw [show s.length - (s.drop (k + 1)).length = k + 1 by have := HSZ.out; rw [List.length_drop]; omega]; rfl
        · rw [List.length_drop]; omega
      · have HT2 : Hid (tot = _) := Lib.hid (HT2.out.trans (if_neg (by
          rw [drop_getD, Nat.add_zero, List.length_drop]
          simp only [Bool.and_eq_true, decide_eq_true_eq, beq_iff_eq, List.isEmpty_iff]
          rintro ⟨⟨h1, h2⟩, h3⟩
          exact hA ⟨by have := HSZ.out; omega, h2, h3⟩)))
        by_cases hge : S.size ≤ k
        · have HR : Hid (tot = none) := Lib.hid (by rw [HT2.out, if_pos (by have := HSZ.out; rw [List.length_drop]; omega)])
          have e4 : (S.size : Int) - (k : Int) < 4 := by omega
          have e2 : ¬ (k : Int) < (S.size : Int) := by omega
          clear HT2 hA
          go_wp2
          go_ret2
          show TyP tot s.length w _ _
          rw [HR.out]
          exact ⟨rfl, HB.out⟩
        · have e2 : (k : Int) < (S.size : Int) := by omega
          by_cases hc : s.getD k 0 = 41
          · have e1 : (bt S k == 41) = true := by rw [HBT.out, u8_41, hc]; rfl
            have hL : L ≠ [] := fun e => hA ⟨by omega, hc, e⟩
            have hL1 : 0 < L.length := List.length_pos_iff.2 hL
            have e3 : ((L.length : Int) == 0) = false := by rw [beq_eq_false_iff_ne]; omega
            clear hA hc hL
            by_cases h4 : S.size - k < 4
            · have HR : Hid (tot = none) := Lib.hid (by rw [HT2.out, if_pos (by have := HSZ.out; rw [List.length_drop]; omega)])
              have e4 : (S.size : Int) - (k : Int) < 4 := by omega
              clear HT2 h4
              go_wp2
              go_ret2
              show TyP tot s.length w _ _
              rw [HR.out]
              exact ⟨rfl, HB.out⟩
            · have e4 : ¬ (S.size : Int) - (k : Int) < 4 := by omega
              have e5 : k + 4 ≤ S.size := by omega
              have HT3 := Lib.hid (HT2.out.trans (if_neg (by have := HSZ.out; rw [List.length_drop]; omega)))
              have HX : Hid ((S.extract k (k + 3)).toList = (s.drop k).take 3) := Lib.hid (by rw [HEX.out, Nat.add_sub_cancel_left])
              have hnm : nm3 (s.drop k) = if (s.drop k).take 3 == [105, 51, 50] then some 127 else if (s.drop k).take 3 == [105, 54, 52] then some 126 else none := rfl
              by_cases h32 : ((s.drop k).take 3 == [105, 51, 50]) = true
              · rw [if_pos h32] at hnm
                have HN : Hid (tot = if (s.drop k).getD 3 0 = 41 then some (L ++ [127], (s.drop k).drop 4) else if (s.drop k).getD 3 0 = 44 then rgo f (L ++ [127]) ((s.drop k).drop 4) else none) := Lib.hid (by rw [HT3.out, hnm])
                have e6 : ((S.extract k (k + 3)).toList == [105, 51, 50]) = true := by rw [HX.out]; exact h32
                clear h32 hnm h4 HT3
                by_cases h41 : s.getD (k + 3) 0 = 41
                · have HR : Hid (tot = some (L ++ [127], s.drop (k + 4))) := Lib.hid (by rw [HN.out, drop_getD, if_pos h41, List.drop_drop])
                  have e41 : (bt S (k + 3) == 41) = true := by rw [HBT.out, u8_41, h41]; rfl
                  clear HN h41 HT2
                  go_wp2_with (at_builtin; refine wpList_append_own _ rfl (.tmp 48) (.tmp 49) 22 rfl w.heap.size 5 i0 _ 1 1 Tryd.underlying22 hi hz0 hz1 hz2 rfl (by decide) _ L.length _ rfl (HO.out.alloc _) ⟨wr.heap.size, 0, none⟩ 1 1 [U8 127] rfl rfl (cell_new _ _ _) ?c2_0 ?c3_0 ?c4_0 ?c5_0 ?_)
                  case c2_0 => first | rfl | (intro u hu; simp at hu; subst hu; rfl)
                  case c3_0 => unfold maxLen; omega
                  case c4_0 => omega
                  case c5_0 => have := HB.out.size; simp; omega
                  intro v1 w3 hown1 hg1 _
                  have HB3 : Hid (Below w.heap.size w w3) := Lib.hid (own_below HB.out HB.out.size HO.out hg1)
                  have HO3 : Hid (w3.ownsRow w.heap.size 5 1 v1 (L ++ [127]).length ((L ++ [127]).map U8)) := Lib.hid (by
                    rw [List.length_append, List.map_append]; exact hown1)
                  clear hown1 hg1
                  go_wp2
                  go_ret2
                  show TyP tot s.length w _ _
                  rw [HR.out]
                  refine ⟨v1, ?_, ?_, HO3.out, HB3.out⟩
                  · rw [show s.length - (s.drop (k + 4)).length = k + 4 by have := HSZ.out; rw [List.length_drop]; omega]; rfl
                  · rw [List.length_drop]; omega
                · have e41 : (bt S (k + 3) == 41) = false := by rw [HBT.out, u8_41]; simpa using h41
                  by_cases h44 : s.getD (k + 3) 0 = 44
                  · have HR : Hid (tot = rgo f (L ++ [127]) (s.drop (k + 4))) := Lib.hid (by rw [HN.out, drop_getD, if_neg h41, if_pos h44, List.drop_drop])
                    have e44 : (bt S (k + 3) != 44) = false := by
                      show (!(bt S (k + 3) == 44)) = false
                      rw [HBT.out, u8_44, h44]; rfl
                    clear HN h41 h44 HT2
                    go_wp2_with (at_builtin; refine wpList_append_own _ rfl (.tmp 48) (.tmp 49) 22 rfl w.heap.size 5 i0 _ 1 1 Tryd.underlying22 hi hz0 hz1 hz2 rfl (by decide) _ L.length _ rfl (HO.out.alloc _) ⟨wr.heap.size, 0, none⟩ 1 1 [U8 127] rfl rfl (cell_new _ _ _) ?c2_1 ?c3_1 ?c4_1 ?c5_1 ?_)
                    case c2_1 => first | rfl | (intro u hu; simp at hu; subst hu; rfl)
                    case c3_1 => unfold maxLen; omega
                    case c4_1 => omega
                    case c5_1 => have := HB.out.size; simp; omega
                    intro v1 w3 hown1 hg1 _
                    have HB3 : Hid (Below w.heap.size w w3) := Lib.hid (own_below HB.out HB.out.size HO.out hg1)
                    have HO3 : Hid (w3.ownsRow w.heap.size 5 1 v1 (L ++ [127]).length ((L ++ [127]).map U8)) := Lib.hid (by
                      rw [List.length_append, List.map_append]; exact hown1)
                    clear hown1 hg1
                    go_wp2
                    go_roundw
                    case rel =>
                      first
                        | exact ⟨k + 4, L ++ [127], f, by omega, by go_num, Lib.hid (by have := HF.out; omega), HR, HO3, HB3, by simp; omega⟩
                        | ((repeat apply Exists.intro); exact ⟨⟨k + 4, L ++ [127], f, by omega, by go_num, Lib.hid (by have := HF.out; omega), HR, HO3, HB3, by simp; omega⟩, rfl⟩)
                    case measure => simp [intOf]; omega
                  · have HR : Hid (tot = none) := Lib.hid (by rw [HN.out, drop_getD, if_neg h41, if_neg h44])
                    have e44 : (bt S (k + 3) != 44) = true := by
                      show (!(bt S (k + 3) == 44)) = true
                      rw [HBT.out, u8_44]; simpa using h44
                    clear HN h41 h44 HT2
                    go_wp2_with (at_builtin; refine wpList_append_own _ rfl (.tmp 48) (.tmp 49) 22 rfl w.heap.size 5 i0 _ 1 1 Tryd.underlying22 hi hz0 hz1 hz2 rfl (by decide) _ L.length _ rfl (HO.out.alloc _) ⟨wr.heap.size, 0, none⟩ 1 1 [U8 127] rfl rfl (cell_new _ _ _) ?c2_2 ?c3_2 ?c4_2 ?c5_2 ?_)
                    case c2_2 => first | rfl | (intro u hu; simp at hu; subst hu; rfl)
                    case c3_2 => unfold maxLen; omega
                    case c4_2 => omega
                    case c5_2 => have := HB.out.size; simp; omega
                    intro v1 w3 hown1 hg1 _
                    have HB3 : Hid (Below w.heap.size w w3) := Lib.hid (own_below HB.out HB.out.size HO.out hg1)
                    have HO3 : Hid (w3.ownsRow w.heap.size 5 1 v1 (L ++ [127]).length ((L ++ [127]).map U8)) := Lib.hid (by
                      rw [List.length_append, List.map_append]; exact hown1)
                    clear hown1 hg1
                    go_wp2
                    go_ret2
                    show TyP tot s.length w _ _
                    rw [HR.out]
                    exact ⟨rfl, HB3.out⟩
              · have h32' := Bool.eq_false_iff.2 h32
                rw [if_neg h32] at hnm
                have e6 : ((S.extract k (k + 3)).toList == [105, 51, 50]) = false := by rw [HX.out]; exact h32'
                by_cases h64 : ((s.drop k).take 3 == [105, 54, 52]) = true
                · rw [if_pos h64] at hnm
                  have HN : Hid (tot = if (s.drop k).getD 3 0 = 41 then some (L ++ [126], (s.drop k).drop 4) else if (s.drop k).getD 3 0 = 44 then rgo f (L ++ [126]) ((s.drop k).drop 4) else none) := Lib.hid (by rw [HT3.out, hnm])
                  have e7 : ((S.extract k (k + 3)).toList == [105, 54, 52]) = true := by rw [HX.out]; exact h64
                  clear h32 h32' h64 hnm h4 HT3
                  by_cases h41 : s.getD (k + 3) 0 = 41
                  · have HR : Hid (tot = some (L ++ [126], s.drop (k + 4))) := Lib.hid (by rw [HN.out, drop_getD, if_pos h41, List.drop_drop])
                    have e41 : (bt S (k + 3) == 41) = true := by rw [HBT.out, u8_41, h41]; rfl
                    clear HN h41 HT2
                    go_wp2_with (at_builtin; refine wpList_append_own _ rfl (.tmp 53) (.tmp 54) 22 rfl w.heap.size 5 i0 _ 1 1 Tryd.underlying22 hi hz0 hz1 hz2 rfl (by decide) _ L.length _ rfl (HO.out.alloc _) ⟨wr.heap.size, 0, none⟩ 1 1 [U8 126] rfl rfl (cell_new _ _ _) ?c2_3 ?c3_3 ?c4_3 ?c5_3 ?_)
                    case c2_3 => first | rfl | (intro u hu; simp at hu; subst hu; rfl)
                    case c3_3 => unfold maxLen; omega
                    case c4_3 => omega
                    case c5_3 => have := HB.out.size; simp; omega
                    intro v1 w3 hown1 hg1 _
                    have HB3 : Hid (Below w.heap.size w w3) := Lib.hid (own_below HB.out HB.out.size HO.out hg1)
                    have HO3 : Hid (w3.ownsRow w.heap.size 5 1 v1 (L ++ [126]).length ((L ++ [126]).map U8)) := Lib.hid (by
                      rw [List.length_append, List.map_append]; exact hown1)
                    clear hown1 hg1
                    go_wp2
                    go_ret2
                    show TyP tot s.length w _ _
                    rw [HR.out]
                    refine ⟨v1, ?_, ?_, HO3.out, HB3.out⟩
                    · rw [show s.length - (s.drop (k + 4)).length = k + 4 by have := HSZ.out; rw [List.length_drop]; omega]; rfl
                    · rw [List.length_drop]; omega
                  · have e41 : (bt S (k + 3) == 41) = false := by rw [HBT.out, u8_41]; simpa using h41
                    by_cases h44 : s.getD (k + 3) 0 = 44
                    · have HR : Hid (tot = rgo f (L ++ [126]) (s.drop (k + 4))) := Lib.hid (by rw [HN.out, drop_getD, if_neg h41, if_pos h44, List.drop_drop])
                      have e44 : (bt S (k + 3) != 44) = false := by
                        show (!(bt S (k + 3) == 44)) = false
                        rw [HBT.out, u8_44, h44]; rfl
                      clear HN h41 h44 HT2
                      go_wp2_with (at_builtin; refine wpList_append_own _ rfl (.tmp 53) (.tmp 54) 22 rfl w.heap.size 5 i0 _ 1 1 Tryd.underlying22 hi hz0 hz1 hz2 rfl (by decide) _ L.length _ rfl (HO.out.alloc _) ⟨wr.heap.size, 0, none⟩ 1 1 [U8 126] rfl rfl (cell_new _ _ _) ?c2_4 ?c3_4 ?c4_4 ?c5_4 ?_)
                      case c2_4 => first | rfl | (intro u hu; simp at hu; subst hu; rfl)
                      case c3_4 => unfold maxLen; omega
                      case c4_4 => omega
                      case c5_4 => have := HB.out.size; simp; omega
                      intro v1 w3 hown1 hg1 _
                      have HB3 : Hid (Below w.heap.size w w3) := Lib.hid (own_below HB.out HB.out.size HO.out hg1)
                      have HO3 : Hid (w3.ownsRow w.heap.size 5 1 v1 (L ++ [126]).length ((L ++ [126]).map U8)) := Lib.hid (by
                        rw [List.length_append, List.map_append]; exact hown1)
                      clear hown1 hg1
                      go_wp2
                      go_roundw
                      case rel =>
                        first
                          | exact ⟨k + 4, L ++ [126], f, by omega, by go_num, Lib.hid (by have := HF.out; omega), HR, HO3, HB3, by simp; omega⟩
                          | ((repeat apply Exists.intro); exact ⟨⟨k + 4, L ++ [126], f, by omega, by go_num, Lib.hid (by have := HF.out; omega), HR, HO3, HB3, by simp; omega⟩, rfl⟩)
                      case measure => simp [intOf]; omega
                    · have HR : Hid (tot = none) := Lib.hid (by rw [HN.out, drop_getD, if_neg h41, if_neg h44])
                      have e44 : (bt S (k + 3) != 44) = true := by
                        show (!(bt S (k + 3) == 44)) = true
                        rw [HBT.out, u8_44]; simpa using h44
                      clear HN h41 h44 HT2
                      go_wp2_with (at_builtin; refine wpList_append_own _ rfl (.tmp 53) (.tmp 54) 22 rfl w.heap.size 5 i0 _ 1 1 Tryd.underlying22 hi hz0 hz1 hz2 rfl (by decide) _ L.length _ rfl (HO.out.alloc _) ⟨wr.heap.size, 0, none⟩ 1 1 [U8 126] rfl rfl (cell_new _ _ _) ?c2_5 ?c3_5 ?c4_5 ?c5_5 ?_)
                      case c2_5 => first | rfl | (intro u hu; simp at hu; subst hu; rfl)
                      case c3_5 => unfold maxLen; omega
                      case c4_5 => omega
                      case c5_5 => have := HB.out.size; simp; omega
                      intro v1 w3 hown1 hg1 _
                      have HB3 : Hid (Below w.heap.size w w3) := Lib.hid (own_below HB.out HB.out.size HO.out hg1)
                      have HO3 : Hid (w3.ownsRow w.heap.size 5 1 v1 (L ++ [126]).length ((L ++ [126]).map U8)) := Lib.hid (by
                        rw [List.length_append, List.map_append]; exact hown1)
                      clear hown1 hg1
                      go_wp2
                      go_ret2
                      show TyP tot s.length w _ _
                      rw [HR.out]
                      exact ⟨rfl, HB3.out⟩
                · have e7 : ((S.extract k (k + 3)).toList == [105, 54, 52]) = false := by rw [HX.out]; exact Bool.eq_false_iff.2 h64
                  rw [if_neg h64] at hnm
                  have HR : Hid (tot = none) := Lib.hid (by rw [HT3.out, hnm])
                  clear h32 h32' h64 hnm h4 HT3 HT2
                  go_wp2
                  go_ret2
                  show TyP tot s.length w _ _
                  rw [HR.out]
                  exact ⟨rfl, HB.out⟩
          · have e1 : (bt S k == 41) = false := by rw [HBT.out, u8_41]; simpa using hc
            clear hA hc
            by_cases h4 : S.size - k < 4
            · have HR : Hid (tot = none) := Lib.hid (by rw [HT2.out, if_pos (by have := HSZ.out; rw [List.length_drop]; omega)])
              have e4 : (S.size : Int) - (k : Int) < 4 := by omega
              clear HT2 h4
              go_wp2
              go_ret2
              show TyP tot s.length w _ _
              rw [HR.out]
              exact ⟨rfl, HB.out⟩
            · have e4 : ¬ (S.size : Int) - (k : Int) < 4 := by omega
              have e5 : k + 4 ≤ S.size := by omega
              have HT3 := Lib.hid (HT2.out.trans (if_neg (by have := HSZ.out; rw [List.length_drop]; omega)))
              have HX : Hid ((S.extract k (k + 3)).toList = (s.drop k).take 3) := Lib.hid (by rw [HEX.out, Nat.add_sub_cancel_left])
              have hnm : nm3 (s.drop k) = if (s.drop k).take 3 == [105, 51, 50] then some 127 else if (s.drop k).take 3 == [105, 54, 52] then some 126 else none := rfl
              by_cases h32 : ((s.drop k).take 3 == [105, 51, 50]) = true
              · rw [if_pos h32] at hnm
                have HN : Hid (tot = if (s.drop k).getD 3 0 = 41 then some (L ++ [127], (s.drop k).drop 4) else if (s.drop k).getD 3 0 = 44 then rgo f (L ++ [127]) ((s.drop k).drop 4) else none) := Lib.hid (by rw [HT3.out, hnm])
                have e6 : ((S.extract k (k + 3)).toList == [105, 51, 50]) = true := by rw [HX.out]; exact h32
                clear h32 hnm h4 HT3
                by_cases h41 : s.getD (k + 3) 0 = 41
                · have HR : Hid (tot = some (L ++ [127], s.drop (k + 4))) := Lib.hid (by rw [HN.out, drop_getD, if_pos h41, List.drop_drop])
                  have e41 : (bt S (k + 3) == 41) = true := by rw [HBT.out, u8_41, h41]; rfl
                  clear HN h41 HT2
                  go_wp2_with (at_builtin; refine wpList_append_own _ rfl (.tmp 48) (.tmp 49) 22 rfl w.heap.size 5 i0 _ 1 1 Tryd.underlying22 hi hz0 hz1 hz2 rfl (by decide) _ L.length _ rfl (HO.out.alloc _) ⟨wr.heap.size, 0, none⟩ 1 1 [U8 127] rfl rfl (cell_new _ _ _) ?c2_6 ?c3_6 ?c4_6 ?c5_6 ?_)
                  case c2_6 => first | rfl | (intro u hu; simp at hu; subst hu; rfl)
                  case c3_6 => unfold maxLen; omega
                  case c4_6 => omega
                  case c5_6 => have := HB.out.size; simp; omega
                  intro v1 w3 hown1 hg1 _
                  have HB3 : Hid (Below w.heap.size w w3) := Lib.hid (own_below HB.out HB.out.size HO.out hg1)
                  have HO3 : Hid (w3.ownsRow w.heap.size 5 1 v1 (L ++ [127]).length ((L ++ [127]).map U8)) := Lib.hid (by
                    rw [List.length_append, List.map_append]; exact hown1)
                  clear hown1 hg1
                  go_wp2
                  go_ret2
                  show TyP tot s.length w _ _
                  rw [HR.out]
                  refine ⟨v1, ?_, ?_, HO3.out, HB3.out⟩
                  · rw [show s.length - (s.drop (k + 4)).length = k + 4 by have := HSZ.out; rw [List.length_drop]; omega]; rfl
                  · rw [List.length_drop]; omega
                · have e41 : (bt S (k + 3) == 41) = false := by rw [HBT.out, u8_41]; simpa using h41
                  by_cases h44 : s.getD (k + 3) 0 = 44
                  · have HR : Hid (tot = rgo f (L ++ [127]) (s.drop (k + 4))) := Lib.hid (by rw [HN.out, drop_getD, if_neg h41, if_pos h44, List.drop_drop])
                    have e44 : (bt S (k + 3) != 44) = false := by
                      show (!(bt S (k + 3) == 44)) = false
                      rw [HBT.out, u8_44, h44]; rfl
                    clear HN h41 h44 HT2
                    go_wp2_with (at_builtin; refine wpList_append_own _ rfl (.tmp 48) (.tmp 49) 22 rfl w.heap.size 5 i0 _ 1 1 Tryd.underlying22 hi hz0 hz1 hz2 rfl (by decide) _ L.length _ rfl (HO.out.alloc _) ⟨wr.heap.size, 0, none⟩ 1 1 [U8 127] rfl rfl (cell_new _ _ _) ?c2_7 ?c3_7 ?c4_7 ?c5_7 ?_)
                    case c2_7 => first | rfl | (intro u hu; simp at hu; subst hu; rfl)
                    case c3_7 => unfold maxLen; omega
                    case c4_7 => omega
                    case c5_7 => have := HB.out.size; simp; omega
                    intro v1 w3 hown1 hg1 _
                    have HB3 : Hid (Below w.heap.size w w3) := Lib.hid (own_below HB.out HB.out.size HO.out hg1)
                    have HO3 : Hid (w3.ownsRow w.heap.size 5 1 v1 (L ++ [127]).length ((L ++ [127]).map U8)) := Lib.hid (by
                      rw [List.length_append, List.map_append]; exact hown1)
                    clear hown1 hg1
                    go_wp2
                    go_roundw
                    case rel =>
                      first
                        | exact ⟨k + 4, L ++ [127], f, by omega, by go_num, Lib.hid (by have := HF.out; omega), HR, HO3, HB3, by simp; omega⟩
                        | ((repeat apply Exists.intro); exact ⟨⟨k + 4, L ++ [127], f, by omega, by go_num, Lib.hid (by have := HF.out; omega), HR, HO3, HB3, by simp; omega⟩, rfl⟩)
                    case measure => simp [intOf]; omega
                  · have HR : Hid (tot = none) := Lib.hid (by rw [HN.out, drop_getD, if_neg h41, if_neg h44])
                    have e44 : (bt S (k + 3) != 44) = true := by
                      show (!(bt S (k + 3) == 44)) = true
                      rw [HBT.out, u8_44]; simpa using h44
                    clear HN h41 h44 HT2
                    go_wp2_with (at_builtin; refine wpList_append_own _ rfl (.tmp 48) (.tmp 49) 22 rfl w.heap.size 5 i0 _ 1 1 Tryd.underlying22 hi hz0 hz1 hz2 rfl (by decide) _ L.length _ rfl (HO.out.alloc _) ⟨wr.heap.size, 0, none⟩ 1 1 [U8 127] rfl rfl (cell_new _ _ _) ?c2_8 ?c3_8 ?c4_8 ?c5_8 ?_)
                    case c2_8 => first | rfl | (intro u hu; simp at hu; subst hu; rfl)
                    case c3_8 => unfold maxLen; omega
                    case c4_8 => omega
                    case c5_8 => have := HB.out.size; simp; omega
                    intro v1 w3 hown1 hg1 _
                    have HB3 : Hid (Below w.heap.size w w3) := Lib.hid (own_below HB.out HB.out.size HO.out hg1)
                    have HO3 : Hid (w3.ownsRow w.heap.size 5 1 v1 (L ++ [127]).length ((L ++ [127]).map U8)) := Lib.hid (by
                      rw [List.length_append, List.map_append]; exact hown1)
                    clear hown1 hg1
                    go_wp2
                    go_ret2
                    show TyP tot s.length w _ _
                    rw [HR.out]
                    exact ⟨rfl, HB3.out⟩
              · have h32' := Bool.eq_false_iff.2 h32
                rw [if_neg h32] at hnm
                have e6 : ((S.extract k (k + 3)).toList == [105, 51, 50]) = false := by rw [HX.out]; exact h32'
                by_cases h64 : ((s.drop k).take 3 == [105, 54, 52]) = true
                · rw [if_pos h64] at hnm
                  have HN : Hid (tot = if (s.drop k).getD 3 0 = 41 then some (L ++ [126], (s.drop k).drop 4) else if (s.drop k).getD 3 0 = 44 then rgo f (L ++ [126]) ((s.drop k).drop 4) else none) := Lib.hid (by rw [HT3.out, hnm])
                  have e7 : ((S.extract k (k + 3)).toList == [105, 54, 52]) = true := by rw [HX.out]; exact h64
                  clear h32 h32' h64 hnm h4 HT3
                  by_cases h41 : s.getD (k + 3) 0 = 41
                  · have HR : Hid (tot = some (L ++ [126], s.drop (k + 4))) := Lib.hid (by rw [HN.out, drop_getD, if_pos h41, List.drop_drop])
                    have e41 : (bt S (k + 3) == 41) = true := by rw [HBT.out, u8_41, h41]; rfl
                    clear HN h41 HT2
                    go_wp2_with (at_builtin; refine wpList_append_own _ rfl (.tmp 53) (.tmp 54) 22 rfl w.heap.size 5 i0 _ 1 1 Tryd.underlying22 hi hz0 hz1 hz2 rfl (by decide) _ L.length _ rfl (HO.out.alloc _) ⟨wr.heap.size, 0, none⟩ 1 1 [U8 126] rfl rfl (cell_new _ _ _) ?c2_9 ?c3_9 ?c4_9 ?c5_9 ?_)
                    case c2_9 => first | rfl | (intro u hu; simp at hu; subst hu; rfl)
                    case c3_9 => unfold maxLen; omega
                    case c4_9 => omega
                    case c5_9 => have := HB.out.size; simp; omega
                    intro v1 w3 hown1 hg1 _
                    have HB3 : Hid (Below w.heap.size w w3) := Lib.hid (own_below HB.out HB.out.size HO.out hg1)
                    have HO3 : Hid (w3.ownsRow w.heap.size 5 1 v1 (L ++ [126]).length ((L ++ [126]).map U8)) := Lib.hid (by
                      rw [List.length_append, List.map_append]; exact hown1)
                    clear hown1 hg1
                    go_wp2
                    go_ret2
                    show TyP tot s.length w _ _
                    rw [HR.out]
                    refine ⟨v1, ?_, ?_, HO3.out, HB3.out⟩
                    · rw [show s.length - (s.drop (k + 4)).length = k + 4 by have := HSZ.out; rw [List.length_drop]; omega]; rfl
                    · rw [List.length_drop]; omega
                  · have e41 : (bt S (k + 3) == 41) = false := by rw [HBT.out, u8_41]; simpa using h41
                    by_cases h44 : s.getD (k + 3) 0 = 44
                    · have HR : Hid (tot = rgo f (L ++ [126]) (s.drop (k + 4))) := Lib.hid (by rw [HN.out, drop_getD, if_neg h41, if_pos h44, List.drop_drop])
                      have e44 : (bt S (k + 3) != 44) = false := by
                        show (!(bt S (k + 3) == 44)) = false
                        rw [HBT.out, u8_44, h44]; rfl
                      clear HN h41 h44 HT2
                      go_wp2_with (at_builtin; refine wpList_append_own _ rfl (.tmp 53) (.tmp 54) 22 rfl w.heap.size 5 i0 _ 1 1 Tryd.underlying22 hi hz0 hz1 hz2 rfl (by decide) _ L.length _ rfl (HO.out.alloc _) ⟨wr.heap.size, 0, none⟩ 1 1 [U8 126] rfl rfl (cell_new _ _ _) ?c2_10 ?c3_10 ?c4_10 ?c5_10 ?_)
                      case c2_10 => first | rfl | (intro u hu; simp at hu; subst hu; rfl)
                      case c3_10 => unfold maxLen; omega
                      case c4_10 => omega
                      case c5_10 => have := HB.out.size; simp; omega
                      intro v1 w3 hown1 hg1 _
                      have HB3 : Hid (Below w.heap.size w w3) := Lib.hid (own_below HB.out HB.out.size HO.out hg1)
                      have HO3 : Hid (w3.ownsRow w.heap.size 5 1 v1 (L ++ [126]).length ((L ++ [126]).map U8)) := Lib.hid (by
                        rw [List.length_append, List.map_append]; exact hown1)
                      clear hown1 hg1
                      go_wp2
                      go_roundw
                      case rel =>
                        first
                          | exact ⟨k + 4, L ++ [126], f, by omega, by go_num, Lib.hid (by have := HF.out; omega), HR, HO3, HB3, by simp; omega⟩
                          | ((repeat apply Exists.intro); exact ⟨⟨k + 4, L ++ [126], f, by omega, by go_num, Lib.hid (by have := HF.out; omega), HR, HO3, HB3, by simp; omega⟩, rfl⟩)
                      case measure => simp [intOf]; omega
                    · have HR : Hid (tot = none) := Lib.hid (by rw [HN.out, drop_getD, if_neg h41, if_neg h44])
                      have e44 : (bt S (k + 3) != 44) = true := by
                        show (!(bt S (k + 3) == 44)) = true
                        rw [HBT.out, u8_44]; simpa using h44
                      clear HN h41 h44 HT2
                      go_wp2_with (at_builtin; refine wpList_append_own _ rfl (.tmp 53) (.tmp 54) 22 rfl w.heap.size 5 i0 _ 1 1 Tryd.underlying22 hi hz0 hz1 hz2 rfl (by decide) _ L.length _ rfl (HO.out.alloc _) ⟨wr.heap.size, 0, none⟩ 1 1 [U8 126] rfl rfl (cell_new _ _ _) ?c2_11 ?c3_11 ?c4_11 ?c5_11 ?_)
                      case c2_11 => first | rfl | (intro u hu; simp at hu; subst hu; rfl)
                      case c3_11 => unfold maxLen; omega
                      case c4_11 => omega
                      case c5_11 => have := HB.out.size; simp; omega
                      intro v1 w3 hown1 hg1 _
                      have HB3 : Hid (Below w.heap.size w w3) := Lib.hid (own_below HB.out HB.out.size HO.out hg1)
                      have HO3 : Hid (w3.ownsRow w.heap.size 5 1 v1 (L ++ [126]).length ((L ++ [126]).map U8)) := Lib.hid (by
                        rw [List.length_append, List.map_append]; exact hown1)
                      clear hown1 hg1
                      go_wp2
                      go_ret2
                      show TyP tot s.length w _ _
                      rw [HR.out]
                      exact ⟨rfl, HB3.out⟩
                · have e7 : ((S.extract k (k + 3)).toList == [105, 54, 52]) = false := by rw [HX.out]; exact Bool.eq_false_iff.2 h64
                  rw [if_neg h64] at hnm
                  have HR : Hid (tot = none) := Lib.hid (by rw [HT3.out, hnm])
                  clear h32 h32' h64 hnm h4 HT3 HT2
                  go_wp2
                  go_ret2
                  show TyP tot s.length w _ _
                  rw [HR.out]
                  exact ⟨rfl, HB.out⟩
  · have HT : Hid (tot = none) := Lib.hid (by
      rw [htot, rT, if_neg]
      rw [drop_getD, Nat.add_zero, List.length_drop]
      simp only [Bool.and_eq_true, decide_eq_true_eq, beq_iff_eq]
      rintro ⟨h1, h2⟩
      exact hc ⟨by omega, h2⟩)
    by_cases hge : S.size ≤ k0
    · have e2 : ¬ (k0 : Int) < (S.size : Int) := by omega
      clear hc htot
      go_enter Tryd.func49, Tryd.ntmps49
      go_wp2
      go_ret2
      show TyP tot s.length w _ _
      rw [HT.out]
      exact ⟨rfl, Below.refl _ _⟩
    · have e2 : (k0 : Int) < (S.size : Int) := by omega
      have e1 : (bt S k0 != 40) = true := by
        show (!(bt S k0 == 40)) = true
        rw [HBT.out, u8_40]
        have : s.getD k0 0 ≠ 40 := fun e => hc ⟨by omega, e⟩
        simpa using this
      clear hc htot
      go_enter Tryd.func49, Tryd.ntmps49
      go_wp2
      go_ret2
      show TyP tot s.length w _ _
      rw [HT.out]
      exact ⟨rfl, Below.refl _ _⟩
end Go.Proofs.YtalpkdnnclghaaaDoor
