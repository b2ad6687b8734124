/-
  The document's Limits.
-/
import Derived.Test.YtalpkdnnclghaaaDoorXe
import Derived.PlainAid
namespace Go.Proofs.YtalpkdnnclghaaaDoor
open Go.RowKit Go.ChangeShapes Go.WideShapes Go.ChangeAt Go.PlainAid
set_option linter.unusedVariables false
set_option linter.unusedSimpArgs false
/-- the document's reading of limits, of the text without the word for 64 bits -/
def rlG (t : List UInt8) (wd : Bool) : Option (Int × Int × Bool) :=
  if 0 ≤ Lib.indexByte t 32 then
    (if t.drop ((Lib.indexByte t 32).toNat + 1) = [45] then (nmb (t.take (Lib.indexByte t 32).toNat)).map fun a => ((a : Int), -1, wd)
     else match nmb (t.take (Lib.indexByte t 32).toNat), nmb (t.drop ((Lib.indexByte t 32).toNat + 1)) with
       | some a, some b => some ((a : Int), (b : Int), wd)
       | _, _ => none)
  else none
def rlF (s : List UInt8) : Option (Int × Int × Bool) :=
  if 4 < s.length ∧ s.drop (s.length - 4) = sfx then rlG (s.take (s.length - 4)) true else rlG s false
theorem index_one (t : List UInt8) (c : UInt8) : Lib.index t [c] = Lib.indexByte t c := by
  induction t with
  | nil => rfl
  | cons a l ih =>
    rw [Lib.index, Lib.indexByte, ih]
    have e : List.isPrefixOf [c] (a :: l) = (a == c) := by
      simp only [List.isPrefixOf, Bool.and_true]
      rw [Bool.eq_iff_iff]; simp only [beq_iff_eq]; exact eq_comm
    rw [e]
theorem lmO_eq (t : List UInt8) (wd : Bool) : rlG t wd = lmO (Lib.cut t [32]).2.2 (nmb (Lib.cut t [32]).1) (nmD (Lib.cut t [32]).2.1) wd := by
  unfold rlG Lib.cut
  rw [index_one]
  by_cases h : 0 ≤ Lib.indexByte t 32
  · rw [if_pos h, if_pos h]
    simp only [List.length_singleton]
    generalize nmb (t.take (Lib.indexByte t 32).toNat) = o1
    generalize t.drop ((Lib.indexByte t 32).toNat + 1) = r
    unfold nmD
    by_cases hr : r = [45]
    · rw [if_pos hr, if_pos hr]; cases o1 <;> rfl
    · rw [if_neg hr, if_neg hr]; cases o1 <;> cases nmb r <;> rfl
  · rw [if_neg h, if_neg h]; rfl
theorem suf_iff (s : List UInt8) : Lib.hasSuffix s sfx = decide (4 ≤ s.length ∧ s.drop (s.length - 4) = sfx) := by
  unfold Lib.hasSuffix
  rw [Bool.eq_iff_iff, List.isSuffixOf_iff_suffix, decide_eq_true_eq]
  constructor
  · intro h
    exact ⟨h.length_le, (List.suffix_iff_eq_drop.1 h).symm⟩
  · rintro ⟨h1, h2⟩
    rw [← h2]; exact List.drop_suffix _ _
theorem rlF_eq (s : List UInt8) : rlF s = lmF s := by
  unfold rlF lmF Lib.trimSuffix
  rw [suf_iff]
  by_cases h4 : 4 < s.length ∧ s.drop (s.length - 4) = sfx
  · rw [if_pos h4]
    have h5 : decide (4 ≤ s.length ∧ s.drop (s.length - 4) = sfx) = true := by rw [decide_eq_true_eq]; exact ⟨by omega, h4.2⟩
    rw [h5, if_pos rfl, lmO_eq]; rfl
  · rw [if_neg h4]
    by_cases h6 : 4 ≤ s.length ∧ s.drop (s.length - 4) = sfx
    · have hl : s.length = 4 := by
        rcases Nat.lt_or_ge 4 s.length with h | h
        · exact absurd ⟨h, h6.2⟩ h4
        · omega
      have hs : s = sfx := by have := h6.2; rw [hl] at this; simpa using this
      subst hs
      decide +kernel
    · rw [show decide (4 ≤ s.length ∧ s.drop (s.length - 4) = sfx) = false by simpa using h6, if_neg (by decide), lmO_eq]
def RlP (o : Option (Int × Int × Bool)) (w : World) (e : Ending) (w' : World) : Prop :=
  ∃ x y z, e = .returned (.tuple #[.int .i64 x, .int .i64 y, .bool z, .bool o.isSome]) ∧ (∀ p, o = some p → (x, y, z) = p) ∧ w = w'
theorem rd_bd (o : List UInt8) : ((nmb o).getD 0 : Nat) ≤ 1000000000 := by
  cases h : nmb o with
  | none => simp
  | some n => exact (nmb_some h).2
theorem ix_at (t : List UInt8) (k : Nat) (hk : k < t.length) (h : t.getD k 0 = 32) (hn : (32 : UInt8) ∉ t.take k) : Lib.indexByte t 32 = k := by
  have e : t = t.take k ++ 32 :: t.drop (k + 1) := by
    conv => lhs; rw [← List.take_append_drop k t, drop_cons t k hk, h]
  rw [e, ib_app _ _ _ hn, List.length_take, Nat.min_eq_left (by omega)]
theorem no_more (t : List UInt8) (k : Nat) (hk : k < t.length) (h : t.getD k 0 ≠ 32) (hn : (32 : UInt8) ∉ t.take k) : (32 : UInt8) ∉ t.take (k + 1) := by
  rw [List.take_succ_eq_append_getElem hk, List.mem_append, List.mem_singleton, not_or]
  refine ⟨hn, fun e => h ?_⟩
  rw [List.getD_eq_getElem?_getD, List.getElem?_eq_getElem hk, ← e]; rfl
theorem bs_ext (t : List UInt8) (a b : Nat) : (bs t).extract a b = bs ((t.drop a).take (b - a)) := by
  apply ByteArray.ext
  simp [bs, ByteArray.data_extract]
theorem u8_32 (c : UInt8) : ((c.toNat : Int) == 32) = (c == 32) := u8_toNat c 32 (by decide)
set_option maxHeartbeats 4000000 in
set_option maxRecDepth 100000 in
theorem RLim_wide (S : ByteArray) (t : List UInt8) (ht : t.length ≤ 200) (w : World) (h4 : 4 < S.size) (hs9 : S.size ≤ 200) (e1 : ((S.extract (S.size - 4) S.size).toList == [32, 105, 54, 52]) = true) (e2 : S.extract 0 (S.size - 4) = bs t) :
    Calls Tryd.prog 27 #[.string S] w (RlP (rlG t true) w) := by
  obtain ⟨tot, htot⟩ : ∃ tot, tot = rlG t true := ⟨_, rfl⟩
  rw [← htot]
  have HT := Lib.hid htot
  clear htot
  have hb := get_bt (bs t)
  have HBT := Lib.hid (bt_bs t)
  have HSZ := Lib.hid (bs_size t)
  have HEX := Lib.hid (bs_ext t)
  have hT9 : (bs t).size ≤ 200 := by rw [bs_size]; exact ht
  generalize bs t = T at hb HBT HSZ HEX e2 hT9
  have e3 : (4 : Int) < (S.size : Int) := by omega
  go_enter Tryd.func27, Tryd.ntmps27
  go_wp2
  go_loop [7] (fun v7 => ∃ k : Nat, k ≤ T.size ∧ v7 = .int .i64 k ∧ Hid ((32 : UInt8) ∉ t.take k)) (fun v7 => T.size - (intOf v7).toNat)
  case atStart => exact ⟨0, by omega, rfl, Lib.hid (by simp)⟩
  case round =>
    obtain ⟨k, hk, rfl, HNo⟩ := hrel
    by_cases hlt : k < T.size
    · have hlt2 : k < t.length := by have := HSZ.out; omega
      by_cases hc : t.getD k 0 = 32
      · have e5 : (bt T k != 32) = false := by
          show (!(bt T k == 32)) = false
          rw [HBT.out, u8_32, hc]; rfl
        have HIx := Lib.hid (ix_at t k hlt2 hc HNo.out)
        have x1 : T.extract 0 k = bs (t.take k) := by rw [HEX.out, List.drop_zero, Nat.sub_zero]
        have x2 : T.extract (k + 1) T.size = bs (t.drop (k + 1)) := by rw [HEX.out]; congr 1; exact List.take_of_length_le (by have := HSZ.out; rw [List.length_drop]; omega)
        have HXL : Hid ((bs (t.drop (k + 1))).toList = t.drop (k + 1)) := Lib.hid (by rw [Lib.toList_data]; simp [bs])
        have HG : Hid (tot = (if t.drop (k + 1) = [45] then (nmb (t.take k)).map fun a => ((a : Int), -1, true)
           else match nmb (t.take k), nmb (t.drop (k + 1)) with
             | some a, some b => some ((a : Int), (b : Int), true)
             | _, _ => none)) := Lib.hid (by
          rw [HT.out, rlG, HIx.out, if_pos (by omega)]; rfl)
        have R1 := Lib.hid (Read_ok (t.take k) (by rw [List.length_take]; omega) 1000000000 (by decide) (by decide) w)
        have R2 := Lib.hid (Read_ok (t.drop (k + 1)) (by rw [List.length_drop]; omega) 1000000000 (by decide) (by decide) w)
        have R1 : Hid (Calls Tryd.prog 56 #[.string (bs (t.take k)), .int .u64 10, .int .u64 1000000000] w (RdP (nmb (t.take k)) w)) := R1
        have R2 : Hid (Calls Tryd.prog 56 #[.string (bs (t.drop (k + 1))), .int .u64 10, .int .u64 1000000000] w (RdP (nmb (t.drop (k + 1))) w)) := R2
        have hb1 := rd_bd (t.take k)
        have hb2 := rd_bd (t.drop (k + 1))
        clear hc hlt2
        have hdash : ∀ b, decide (t.drop (k + 1) = [45]) = b → ((bs (t.drop (k + 1))).toList == [45]) = b := fun b h => by rw [HXL.out, ← h, Bool.eq_iff_iff]; simp
        by_cases hd : t.drop (k + 1) = [45]
        · have q5 := hdash true (by simp [hd])
          rw [if_pos hd] at HG
          clear hdash hd HXL
          generalize nmb (t.take k) = o1 at R1 HG hb1
          generalize bs (t.take k) = L at R1 x1
          generalize bs (t.drop (k + 1)) = R at x2 q5 R2
          rcases o1 with _ | a
          · try simp only [Option.getD_some] at hb1
            try simp only [Option.getD_some] at hb2
            go_wp2_with (go_at_call 56; (with_reducible refine R1.out.mono ?_); (rintro e w1 ⟨rfl, rfl⟩))
            refine bodyPost_ret (v := .tuple #[.int .i64 0, .int .i64 (-1), .bool true, .bool false]) (by simp [results, Tryd.results27, go_sem]) rfl ?_
            exact ⟨_, _, _, by rw [HG.out]; rfl, (fun p h => by rw [HG.out] at h; cases h), rfl⟩
          · try simp only [Option.getD_some] at hb1
            try simp only [Option.getD_some] at hb2
            go_wp2_with (go_at_call 56; (with_reducible refine R1.out.mono ?_); (rintro e w1 ⟨rfl, rfl⟩))
            refine bodyPost_ret (v := .tuple #[.int .i64 a, .int .i64 (-1), .bool true, .bool true]) (by simp [results, Tryd.results27, go_sem]) rfl ?_
            exact ⟨_, _, _, by rw [HG.out]; rfl, (fun p h => by rw [HG.out] at h; cases h; rfl), rfl⟩
        · have q5 := hdash false (by simp [hd])
          rw [if_neg hd] at HG
          clear hdash hd HXL
          generalize nmb (t.take k) = o1 at R1 HG hb1
          generalize nmb (t.drop (k + 1)) = o2 at R2 HG hb2
          generalize bs (t.take k) = L at R1 x1
          generalize bs (t.drop (k + 1)) = R at x2 q5 R2
          rcases o1 with _ | a <;> rcases o2 with _ | b
          · try simp only [Option.getD_some] at hb1
            try simp only [Option.getD_some] at hb2
            go_wp2_with (go_at_call 56; first | ((with_reducible refine R1.out.mono ?_); (rintro e w1 ⟨rfl, rfl⟩)) | ((with_reducible refine R2.out.mono ?_); (rintro e w1 ⟨rfl, rfl⟩)))
            refine bodyPost_ret (v := .tuple #[.int .i64 0, .int .i64 0, .bool true, .bool false]) (by simp [results, Tryd.results27, go_sem]) rfl ?_
            exact ⟨_, _, _, by rw [HG.out]; rfl, (fun p h => by rw [HG.out] at h; cases h), rfl⟩
          · try simp only [Option.getD_some] at hb1
            try simp only [Option.getD_some] at hb2
            go_wp2_with (go_at_call 56; first | ((with_reducible refine R1.out.mono ?_); (rintro e w1 ⟨rfl, rfl⟩)) | ((with_reducible refine R2.out.mono ?_); (rintro e w1 ⟨rfl, rfl⟩)))
            refine bodyPost_ret (v := .tuple #[.int .i64 0, .int .i64 b, .bool true, .bool false]) (by simp [results, Tryd.results27, go_sem]) rfl ?_
            exact ⟨_, _, _, by rw [HG.out]; rfl, (fun p h => by rw [HG.out] at h; cases h), rfl⟩
          · try simp only [Option.getD_some] at hb1
            try simp only [Option.getD_some] at hb2
            go_wp2_with (go_at_call 56; first | ((with_reducible refine R1.out.mono ?_); (rintro e w1 ⟨rfl, rfl⟩)) | ((with_reducible refine R2.out.mono ?_); (rintro e w1 ⟨rfl, rfl⟩)))
            refine bodyPost_ret (v := .tuple #[.int .i64 a, .int .i64 0, .bool true, .bool false]) (by simp [results, Tryd.results27, go_sem]) rfl ?_
            exact ⟨_, _, _, by rw [HG.out]; rfl, (fun p h => by rw [HG.out] at h; cases h), rfl⟩
          · try simp only [Option.getD_some] at hb1
            try simp only [Option.getD_some] at hb2
            go_wp2_with (go_at_call 56; first | ((with_reducible refine R1.out.mono ?_); (rintro e w1 ⟨rfl, rfl⟩)) | ((with_reducible refine R2.out.mono ?_); (rintro e w1 ⟨rfl, rfl⟩)))
            refine bodyPost_ret (v := .tuple #[.int .i64 a, .int .i64 b, .bool true, .bool true]) (by simp [results, Tryd.results27, go_sem]) rfl ?_
            exact ⟨_, _, _, by rw [HG.out]; rfl, (fun p h => by rw [HG.out] at h; cases h; rfl), rfl⟩
      · have e5 : (bt T k != 32) = true := by
          show (!(bt T k == 32)) = true
          rw [HBT.out, u8_32]; simpa using hc
        have HNo2 := Lib.hid (no_more t k hlt2 hc HNo.out)
        clear hc hlt2
        go_wp2
        go_round
        case rel => exact ⟨k + 1, by omega, by go_num, HNo2⟩
        case measure => simp [intOf]; omega
    · obtain rfl : k = T.size := by omega
      have HR : Hid (tot = none) := Lib.hid (by
        rw [HT.out, rlG, ib_none]; rfl
        have h := HNo.out
        rwa [List.take_of_length_le (by have := HSZ.out; omega)] at h)
      go_wp2
      refine bodyPost_ret (v := .tuple #[.int .i64 0, .int .i64 0, .bool false, .bool false]) (by simp [results, Tryd.results27, go_sem]) rfl ?_
      exact ⟨_, _, _, by rw [HR.out]; rfl, (fun p h => by rw [HR.out] at h; cases h), rfl⟩
set_option maxHeartbeats 4000000 in
set_option maxRecDepth 100000 in
theorem RLim_plain (S : ByteArray) (t : List UInt8) (ht : t.length ≤ 200) (w : World) (hp : (bs t).size ≤ 4 ∨ (4 < (bs t).size ∧ (((bs t).extract ((bs t).size - 4) (bs t).size).toList == [32, 105, 54, 52]) = false)) (hS : S = bs t) :
    Calls Tryd.prog 27 #[.string S] w (RlP (rlG t false) w) := by
  obtain ⟨tot, htot⟩ : ∃ tot, tot = rlG t false := ⟨_, rfl⟩
  rw [← htot]
  have HT := Lib.hid htot
  clear htot
  have hb := get_bt (bs t)
  have HBT := Lib.hid (bt_bs t)
  have HSZ := Lib.hid (bs_size t)
  have HEX := Lib.hid (bs_ext t)
  have hT9 : (bs t).size ≤ 200 := by rw [bs_size]; exact ht
  subst hS
  generalize bs t = T at hb HBT HSZ HEX hp hT9
  rcases hp with e3 | ⟨e3, e1⟩
  · go_enter Tryd.func27, Tryd.ntmps27
    go_wp2
    go_loop [7] (fun v7 => ∃ k : Nat, k ≤ T.size ∧ v7 = .int .i64 k ∧ Hid ((32 : UInt8) ∉ t.take k)) (fun v7 => T.size - (intOf v7).toNat)
    case atStart => exact ⟨0, by omega, rfl, Lib.hid (by simp)⟩
    case round =>
      obtain ⟨k, hk, rfl, HNo⟩ := hrel
      by_cases hlt : k < T.size
      · have hlt2 : k < t.length := by have := HSZ.out; omega
        by_cases hc : t.getD k 0 = 32
        · have e5 : (bt T k != 32) = false := by
            show (!(bt T k == 32)) = false
            rw [HBT.out, u8_32, hc]; rfl
          have HIx := Lib.hid (ix_at t k hlt2 hc HNo.out)
          have x1 : T.extract 0 k = bs (t.take k) := by rw [HEX.out, List.drop_zero, Nat.sub_zero]
          have x2 : T.extract (k + 1) T.size = bs (t.drop (k + 1)) := by rw [HEX.out]; congr 1; exact List.take_of_length_le (by have := HSZ.out; rw [List.length_drop]; omega)
          have HXL : Hid ((bs (t.drop (k + 1))).toList = t.drop (k + 1)) := Lib.hid (by rw [Lib.toList_data]; simp [bs])
          have HG : Hid (tot = (if t.drop (k + 1) = [45] then (nmb (t.take k)).map fun a => ((a : Int), -1, false)
             else match nmb (t.take k), nmb (t.drop (k + 1)) with
               | some a, some b => some ((a : Int), (b : Int), false)
               | _, _ => none)) := Lib.hid (by
            rw [HT.out, rlG, HIx.out, if_pos (by omega)]; rfl)
          have R1 := Lib.hid (Read_ok (t.take k) (by rw [List.length_take]; omega) 1000000000 (by decide) (by decide) w)
          have R2 := Lib.hid (Read_ok (t.drop (k + 1)) (by rw [List.length_drop]; omega) 1000000000 (by decide) (by decide) w)
          have R1 : Hid (Calls Tryd.prog 56 #[.string (bs (t.take k)), .int .u64 10, .int .u64 1000000000] w (RdP (nmb (t.take k)) w)) := R1
          have R2 : Hid (Calls Tryd.prog 56 #[.string (bs (t.drop (k + 1))), .int .u64 10, .int .u64 1000000000] w (RdP (nmb (t.drop (k + 1))) w)) := R2
          have hb1 := rd_bd (t.take k)
          have hb2 := rd_bd (t.drop (k + 1))
          clear hc hlt2
          have hdash : ∀ b, decide (t.drop (k + 1) = [45]) = b → ((bs (t.drop (k + 1))).toList == [45]) = b := fun b h => by rw [HXL.out, ← h, Bool.eq_iff_iff]; simp
          by_cases hd : t.drop (k + 1) = [45]
          · have q5 := hdash true (by simp [hd])
            rw [if_pos hd] at HG
            clear hdash hd HXL
            generalize nmb (t.take k) = o1 at R1 HG hb1
            generalize bs (t.take k) = L at R1 x1
            generalize bs (t.drop (k + 1)) = R at x2 q5 R2
            rcases o1 with _ | a
            · try simp only [Option.getD_some] at hb1
              try simp only [Option.getD_some] at hb2
              go_wp2_with (go_at_call 56; (with_reducible refine R1.out.mono ?_); (rintro e w1 ⟨rfl, rfl⟩))
              refine bodyPost_ret (v := .tuple #[.int .i64 0, .int .i64 (-1), .bool false, .bool false]) (by simp [results, Tryd.results27, go_sem]) rfl ?_
              exact ⟨_, _, _, by rw [HG.out]; rfl, (fun p h => by rw [HG.out] at h; cases h), rfl⟩
            · try simp only [Option.getD_some] at hb1
              try simp only [Option.getD_some] at hb2
              go_wp2_with (go_at_call 56; (with_reducible refine R1.out.mono ?_); (rintro e w1 ⟨rfl, rfl⟩))
              refine bodyPost_ret (v := .tuple #[.int .i64 a, .int .i64 (-1), .bool false, .bool true]) (by simp [results, Tryd.results27, go_sem]) rfl ?_
              exact ⟨_, _, _, by rw [HG.out]; rfl, (fun p h => by rw [HG.out] at h; cases h; rfl), rfl⟩
          · have q5 := hdash false (by simp [hd])
            rw [if_neg hd] at HG
            clear hdash hd HXL
            generalize nmb (t.take k) = o1 at R1 HG hb1
            generalize nmb (t.drop (k + 1)) = o2 at R2 HG hb2
            generalize bs (t.take k) = L at R1 x1
            generalize bs (t.drop (k + 1)) = R at x2 q5 R2
            rcases o1 with _ | a <;> rcases o2 with _ | b
            · try simp only [Option.getD_some] at hb1
              try simp only [Option.getD_some] at hb2
              go_wp2_with (go_at_call 56; first | ((with_reducible refine R1.out.mono ?_); (rintro e w1 ⟨rfl, rfl⟩)) | ((with_reducible refine R2.out.mono ?_); (rintro e w1 ⟨rfl, rfl⟩)))
              refine bodyPost_ret (v := .tuple #[.int .i64 0, .int .i64 0, .bool false, .bool false]) (by simp [results, Tryd.results27, go_sem]) rfl ?_
              exact ⟨_, _, _, by rw [HG.out]; rfl, (fun p h => by rw [HG.out] at h; cases h), rfl⟩
            · try simp only [Option.getD_some] at hb1
              try simp only [Option.getD_some] at hb2
              go_wp2_with (go_at_call 56; first | ((with_reducible refine R1.out.mono ?_); (rintro e w1 ⟨rfl, rfl⟩)) | ((with_reducible refine R2.out.mono ?_); (rintro e w1 ⟨rfl, rfl⟩)))
              refine bodyPost_ret (v := .tuple #[.int .i64 0, .int .i64 b, .bool false, .bool false]) (by simp [results, Tryd.results27, go_sem]) rfl ?_
              exact ⟨_, _, _, by rw [HG.out]; rfl, (fun p h => by rw [HG.out] at h; cases h), rfl⟩
            · try simp only [Option.getD_some] at hb1
              try simp only [Option.getD_some] at hb2
              go_wp2_with (go_at_call 56; first | ((with_reducible refine R1.out.mono ?_); (rintro e w1 ⟨rfl, rfl⟩)) | ((with_reducible refine R2.out.mono ?_); (rintro e w1 ⟨rfl, rfl⟩)))
              refine bodyPost_ret (v := .tuple #[.int .i64 a, .int .i64 0, .bool false, .bool false]) (by simp [results, Tryd.results27, go_sem]) rfl ?_
              exact ⟨_, _, _, by rw [HG.out]; rfl, (fun p h => by rw [HG.out] at h; cases h), rfl⟩
            · try simp only [Option.getD_some] at hb1
              try simp only [Option.getD_some] at hb2
              go_wp2_with (go_at_call 56; first | ((with_reducible refine R1.out.mono ?_); (rintro e w1 ⟨rfl, rfl⟩)) | ((with_reducible refine R2.out.mono ?_); (rintro e w1 ⟨rfl, rfl⟩)))
              refine bodyPost_ret (v := .tuple #[.int .i64 a, .int .i64 b, .bool false, .bool true]) (by simp [results, Tryd.results27, go_sem]) rfl ?_
              exact ⟨_, _, _, by rw [HG.out]; rfl, (fun p h => by rw [HG.out] at h; cases h; rfl), rfl⟩
        · have e5 : (bt T k != 32) = true := by
            show (!(bt T k == 32)) = true
            rw [HBT.out, u8_32]; simpa using hc
          have HNo2 := Lib.hid (no_more t k hlt2 hc HNo.out)
          clear hc hlt2
          go_wp2
          go_round
          case rel => exact ⟨k + 1, by omega, by go_num, HNo2⟩
          case measure => simp [intOf]; omega
      · obtain rfl : k = T.size := by omega
        have HR : Hid (tot = none) := Lib.hid (by
          rw [HT.out, rlG, ib_none]; rfl
          have h := HNo.out
          rwa [List.take_of_length_le (by have := HSZ.out; omega)] at h)
        go_wp2
        refine bodyPost_ret (v := .tuple #[.int .i64 0, .int .i64 0, .bool false, .bool false]) (by simp [results, Tryd.results27, go_sem]) rfl ?_
        exact ⟨_, _, _, by rw [HR.out]; rfl, (fun p h => by rw [HR.out] at h; cases h), rfl⟩
  · have e4 : (4 : Int) < (T.size : Int) := by omega
    go_enter Tryd.func27, Tryd.ntmps27
    go_wp2
    go_loop [7] (fun v7 => ∃ k : Nat, k ≤ T.size ∧ v7 = .int .i64 k ∧ Hid ((32 : UInt8) ∉ t.take k)) (fun v7 => T.size - (intOf v7).toNat)
    case atStart => exact ⟨0, by omega, rfl, Lib.hid (by simp)⟩
    case round =>
      obtain ⟨k, hk, rfl, HNo⟩ := hrel
      by_cases hlt : k < T.size
      · have hlt2 : k < t.length := by have := HSZ.out; omega
        by_cases hc : t.getD k 0 = 32
        · have e5 : (bt T k != 32) = false := by
            show (!(bt T k == 32)) = false
            rw [HBT.out, u8_32, hc]; rfl
          have HIx := Lib.hid (ix_at t k hlt2 hc HNo.out)
          have x1 : T.extract 0 k = bs (t.take k) := by rw [HEX.out, List.drop_zero, Nat.sub_zero]
          have x2 : T.extract (k + 1) T.size = bs (t.drop (k + 1)) := by rw [HEX.out]; congr 1; exact List.take_of_length_le (by have := HSZ.out; rw [List.length_drop]; omega)
          have HXL : Hid ((bs (t.drop (k + 1))).toList = t.drop (k + 1)) := Lib.hid (by rw [Lib.toList_data]; simp [bs])
          have HG : Hid (tot = (if t.drop (k + 1) = [45] then (nmb (t.take k)).map fun a => ((a : Int), -1, false)
             else match nmb (t.take k), nmb (t.drop (k + 1)) with
               | some a, some b => some ((a : Int), (b : Int), false)
               | _, _ => none)) := Lib.hid (by
            rw [HT.out, rlG, HIx.out, if_pos (by omega)]; rfl)
          have R1 := Lib.hid (Read_ok (t.take k) (by rw [List.length_take]; omega) 1000000000 (by decide) (by decide) w)
          have R2 := Lib.hid (Read_ok (t.drop (k + 1)) (by rw [List.length_drop]; omega) 1000000000 (by decide) (by decide) w)
          have R1 : Hid (Calls Tryd.prog 56 #[.string (bs (t.take k)), .int .u64 10, .int .u64 1000000000] w (RdP (nmb (t.take k)) w)) := R1
          have R2 : Hid (Calls Tryd.prog 56 #[.string (bs (t.drop (k + 1))), .int .u64 10, .int .u64 1000000000] w (RdP (nmb (t.drop (k + 1))) w)) := R2
          have hb1 := rd_bd (t.take k)
          have hb2 := rd_bd (t.drop (k + 1))
          clear hc hlt2
          have hdash : ∀ b, decide (t.drop (k + 1) = [45]) = b → ((bs (t.drop (k + 1))).toList == [45]) = b := fun b h => by rw [HXL.out, ← h, Bool.eq_iff_iff]; simp
          by_cases hd : t.drop (k + 1) = [45]
          · have q5 := hdash true (by simp [hd])
            rw [if_pos hd] at HG
            clear hdash hd HXL
            generalize nmb (t.take k) = o1 at R1 HG hb1
            generalize bs (t.take k) = L at R1 x1
            generalize bs (t.drop (k + 1)) = R at x2 q5 R2
            rcases o1 with _ | a
            · try simp only [Option.getD_some] at hb1
              try simp only [Option.getD_some] at hb2
              go_wp2_with (go_at_call 56; (with_reducible refine R1.out.mono ?_); (rintro e w1 ⟨rfl, rfl⟩))
              refine bodyPost_ret (v := .tuple #[.int .i64 0, .int .i64 (-1), .bool false, .bool false]) (by simp [results, Tryd.results27, go_sem]) rfl ?_
              exact ⟨_, _, _, by rw [HG.out]; rfl, (fun p h => by rw [HG.out] at h; cases h), rfl⟩
            · try simp only [Option.getD_some] at hb1
              try simp only [Option.getD_some] at hb2
              go_wp2_with (go_at_call 56; (with_reducible refine R1.out.mono ?_); (rintro e w1 ⟨rfl, rfl⟩))
              refine bodyPost_ret (v := .tuple #[.int .i64 a, .int .i64 (-1), .bool false, .bool true]) (by simp [results, Tryd.results27, go_sem]) rfl ?_
              exact ⟨_, _, _, by rw [HG.out]; rfl, (fun p h => by rw [HG.out] at h; cases h; rfl), rfl⟩
          · have q5 := hdash false (by simp [hd])
            rw [if_neg hd] at HG
            clear hdash hd HXL
            generalize nmb (t.take k) = o1 at R1 HG hb1
            generalize nmb (t.drop (k + 1)) = o2 at R2 HG hb2
            generalize bs (t.take k) = L at R1 x1
            generalize bs (t.drop (k + 1)) = R at x2 q5 R2
            rcases o1 with _ | a <;> rcases o2 with _ | b
            · try simp only [Option.getD_some] at hb1
              try simp only [Option.getD_some] at hb2
              go_wp2_with (go_at_call 56; first | ((with_reducible refine R1.out.mono ?_); (rintro e w1 ⟨rfl, rfl⟩)) | ((with_reducible refine R2.out.mono ?_); (rintro e w1 ⟨rfl, rfl⟩)))
              refine bodyPost_ret (v := .tuple #[.int .i64 0, .int .i64 0, .bool false, .bool false]) (by simp [results, Tryd.results27, go_sem]) rfl ?_
              exact ⟨_, _, _, by rw [HG.out]; rfl, (fun p h => by rw [HG.out] at h; cases h), rfl⟩
            · try simp only [Option.getD_some] at hb1
              try simp only [Option.getD_some] at hb2
              go_wp2_with (go_at_call 56; first | ((with_reducible refine R1.out.mono ?_); (rintro e w1 ⟨rfl, rfl⟩)) | ((with_reducible refine R2.out.mono ?_); (rintro e w1 ⟨rfl, rfl⟩)))
              refine bodyPost_ret (v := .tuple #[.int .i64 0, .int .i64 b, .bool false, .bool false]) (by simp [results, Tryd.results27, go_sem]) rfl ?_
              exact ⟨_, _, _, by rw [HG.out]; rfl, (fun p h => by rw [HG.out] at h; cases h), rfl⟩
            · try simp only [Option.getD_some] at hb1
              try simp only [Option.getD_some] at hb2
              go_wp2_with (go_at_call 56; first | ((with_reducible refine R1.out.mono ?_); (rintro e w1 ⟨rfl, rfl⟩)) | ((with_reducible refine R2.out.mono ?_); (rintro e w1 ⟨rfl, rfl⟩)))
              refine bodyPost_ret (v := .tuple #[.int .i64 a, .int .i64 0, .bool false, .bool false]) (by simp [results, Tryd.results27, go_sem]) rfl ?_
              exact ⟨_, _, _, by rw [HG.out]; rfl, (fun p h => by rw [HG.out] at h; cases h), rfl⟩
            · try simp only [Option.getD_some] at hb1
              try simp only [Option.getD_some] at hb2
              go_wp2_with (go_at_call 56; first | ((with_reducible refine R1.out.mono ?_); (rintro e w1 ⟨rfl, rfl⟩)) | ((with_reducible refine R2.out.mono ?_); (rintro e w1 ⟨rfl, rfl⟩)))
              refine bodyPost_ret (v := .tuple #[.int .i64 a, .int .i64 b, .bool false, .bool true]) (by simp [results, Tryd.results27, go_sem]) rfl ?_
              exact ⟨_, _, _, by rw [HG.out]; rfl, (fun p h => by rw [HG.out] at h; cases h; rfl), rfl⟩
        · have e5 : (bt T k != 32) = true := by
            show (!(bt T k == 32)) = true
            rw [HBT.out, u8_32]; simpa using hc
          have HNo2 := Lib.hid (no_more t k hlt2 hc HNo.out)
          clear hc hlt2
          go_wp2
          go_round
          case rel => exact ⟨k + 1, by omega, by go_num, HNo2⟩
          case measure => simp [intOf]; omega
      · obtain rfl : k = T.size := by omega
        have HR : Hid (tot = none) := Lib.hid (by
          rw [HT.out, rlG, ib_none]; rfl
          have h := HNo.out
          rwa [List.take_of_length_le (by have := HSZ.out; omega)] at h)
        go_wp2
        refine bodyPost_ret (v := .tuple #[.int .i64 0, .int .i64 0, .bool false, .bool false]) (by simp [results, Tryd.results27, go_sem]) rfl ?_
        exact ⟨_, _, _, by rw [HR.out]; rfl, (fun p h => by rw [HR.out] at h; cases h), rfl⟩
theorem RLimits_any (s : List UInt8) (hs : s.length ≤ 100) (w : World) : Calls Tryd.prog 27 #[.string (bs s)] w (RlP (lmF s) w) := by
  have hx : ((bs s).extract ((bs s).size - 4) (bs s).size).toList = s.drop (s.length - 4) := by
    rw [ext_bs, bs_size, List.take_of_length_le]
    rw [List.length_drop]; omega
  rw [← rlF_eq]
  unfold rlF
  by_cases h : 4 < s.length ∧ s.drop (s.length - 4) = sfx
  · rw [if_pos h]
    refine RLim_wide (bs s) _ (by rw [List.length_take]; omega) w (by rw [bs_size]; exact h.1) (by rw [bs_size]; omega) (by rw [hx, h.2]; rfl) ?_
    rw [bs_size, bs_ext, List.drop_zero, Nat.sub_zero]
  · rw [if_neg h]
    refine RLim_plain (bs s) s (by omega) w ?_ rfl
    by_cases h4 : 4 < s.length
    · refine .inr ⟨by rw [bs_size]; exact h4, ?_⟩
      rw [hx]
      have : s.drop (s.length - 4) ≠ [32, 105, 54, 52] := fun e => h ⟨h4, e⟩
      simpa using this
    · exact .inl (by rw [bs_size]; omega)
end Go.Proofs.YtalpkdnnclghaaaDoor
