/-
  types.ParseLimits; Limits.Right, Most.
-/
import Derived.Test.YtalpkdnnclghaaaDoorXb
namespace Go.Proofs.YtalpkdnnclghaaaDoor
open Go.RowKit Go.ChangeShapes Go.WideShapes Go.ChangeAt
set_option linter.unusedVariables false
set_option linter.unusedSimpArgs false
def nmD (r : List UInt8) : Option Int := if r = [45] then some (-1) else (nmb r).map Int.ofNat
def lmO : Bool → Option Nat → Option Int → Bool → Option (Int × Int × Bool)
  | true, some a, some b, wd => some ((a : Int), b, wd)
  | _, _, _, _ => none
def sfx : List UInt8 := [32, 105, 54, 52]
/-- a text's limits -/
def lmF (s : List UInt8) : Option (Int × Int × Bool) :=
  lmO (Lib.cut (Lib.trimSuffix s sfx) [32]).2.2 (nmb (Lib.cut (Lib.trimSuffix s sfx) [32]).1) (nmD (Lib.cut (Lib.trimSuffix s sfx) [32]).2.1) (Lib.hasSuffix s sfx)
def LiP (o : Option (Int × Int × Bool)) (w : World) (e : Ending) (w' : World) : Prop :=
  (match o with
    | none => e = .returned (.tuple #[.agg #[.int .i64 0, .int .i64 0, .bool false], .int .i64 4])
    | some (a, b, wd) => e = .returned (.tuple #[.agg #[.int .i64 a, .int .i64 b, .bool wd], .int .i64 0])) ∧ Below w.heap.size w w'
theorem lim_end {w w3 : World} {X Y Z c0 c1 c2 : Value} (h : Blk w3 w.heap.size 40 #[c0, c1, c2]) (hb : Below w.heap.size w w3) :
    (((w3.setCell ⟨w.heap.size, 0, none⟩ X).setCell ⟨w.heap.size, 1, none⟩ Y).setCell ⟨w.heap.size, 2, none⟩ Z).cell? ⟨w.heap.size, 0, none⟩ = some X ∧
    (((w3.setCell ⟨w.heap.size, 0, none⟩ X).setCell ⟨w.heap.size, 1, none⟩ Y).setCell ⟨w.heap.size, 2, none⟩ Z).cell? ⟨w.heap.size, 1, none⟩ = some Y ∧
    (((w3.setCell ⟨w.heap.size, 0, none⟩ X).setCell ⟨w.heap.size, 1, none⟩ Y).setCell ⟨w.heap.size, 2, none⟩ Z).cell? ⟨w.heap.size, 2, none⟩ = some Z ∧
    Below w.heap.size w (((w3.setCell ⟨w.heap.size, 0, none⟩ X).setCell ⟨w.heap.size, 1, none⟩ Y).setCell ⟨w.heap.size, 2, none⟩ Z) := by
  have hf : Fr (fun q => q = w.heap.size) w3 (((w3.setCell ⟨w.heap.size, 0, none⟩ X).setCell ⟨w.heap.size, 1, none⟩ Y).setCell ⟨w.heap.size, 2, none⟩ Z) := (((Fr.refl (fun q => q = w.heap.size) w3).set_ (p := ⟨w.heap.size, 0, none⟩) rfl _).set_ (p := ⟨w.heap.size, 1, none⟩) rfl _).set_ (p := ⟨w.heap.size, 2, none⟩) rfl _
  have hk := ((h.set_ 0 X).set_ 1 Y).set_ 2 Z
  exact ⟨hk.cell 0, hk.cell 1, hk.cell 2, hf.below hb hb.size (fun k hk => by omega)⟩
def NuQ (o : Option Nat) (w : World) (e : Ending) (w' : World) : Prop :=
  ∃ v, e = .returned (.tuple #[.int .i64 v, .bool o.isSome]) ∧ (∀ n, o = some n → v = (n : Int)) ∧ Below w.heap.size w w'
set_option maxHeartbeats 4000000 in
set_option maxRecDepth 100000 in
theorem ParseLimits_gen (S T L R : ByteArray) (wd fd dash : Bool) (o1 o2 : Option Nat) (w : World) (hL : Lw w)
    (hcs : ∀ W, Calls Tryd.prog 53 #[.string S, .string ⟨#[32, 105, 54, 52]⟩] W fun e w' => e = .returned (.tuple #[.string T, .bool wd]) ∧ w' = W)
    (hct : ∀ W, Lw W → Calls Tryd.prog 44 #[.string T, .string ⟨#[32]⟩] W fun e w' => e = .returned (.tuple #[.string L, .string R, .bool fd]) ∧ ∃ n, w' = W.drewN n)
    (hn1 : ∀ W, Lw W → Calls Tryd.prog 54 #[.string L] W (NuQ o1 W)) (hn2 : ∀ W, Lw W → Calls Tryd.prog 54 #[.string R] W (NuQ o2 W))
    (hd : (R.toList == [45]) = dash) :
    Calls Tryd.prog 23 #[.string S] w (LiP (lmO fd o1 (if dash then some (-1) else o2.map Int.ofNat) wd) w) := by
  have hb : Below w.heap.size w (w.alloc (.cells #[.int .i64 0, .int .i64 0, .bool false] 40)) := (Below.refl _ _).alloc (Nat.le_refl _) _
  have HB := Lib.hid hb
  have HS := Lib.hid hcs
  have HC := Lib.hid (hct _ (hL.below hb))
  have HN1 := Lib.hid hn1
  have HN2 := Lib.hid hn2
  have HLw := Lib.hid hL
  have HK := Lib.hid (Blk.new w 40 #[.int .i64 0, .int .i64 0, .bool false])
  clear hcs hct hn1 hn2 hL hb
  have HLW : Hid (∀ n, Lw ((w.alloc (.cells #[.int .i64 0, .int .i64 0, .bool false] 40)).drewN n)) := Lib.hid (fun n => HLw.out.below (HB.out.trans ⟨rfl, rfl, rfl, Nat.le_refl _, fun _ _ => rfl⟩))
  have HBW : Hid (∀ n, Below w.heap.size w ((w.alloc (.cells #[.int .i64 0, .int .i64 0, .bool false] 40)).drewN n)) := Lib.hid (fun n => HB.out.trans ⟨rfl, rfl, rfl, Nat.le_refl _, fun _ _ => rfl⟩)
  have HKW : Hid (∀ n, Blk ((w.alloc (.cells #[.int .i64 0, .int .i64 0, .bool false] 40)).drewN n) w.heap.size 40 #[.int .i64 0, .int .i64 0, .bool false]) := Lib.hid (fun n => HK.out.drewN n)
  cases fd <;> cases dash
  all_goals
    cases o1 <;> cases o2
  all_goals
    go_enter Tryd.func23, Tryd.ntmps23
    go_wp2_with (first
      | (go_at_call 53; (with_reducible refine (HS.out _).mono ?_); rintro e w1 ⟨rfl, rfl⟩)
      | (go_at_call 44; (with_reducible refine HC.out.mono ?_); rintro e w1 ⟨rfl, nn, rfl⟩)
      | (go_at_call 54; first
        | ((with_reducible refine (HN1.out _ (HLW.out _)).mono ?_); (rintro e w2 ⟨v1, rfl, hv1, hb⟩)
           have HV1 := Lib.hid hv1
           have HB2 := Lib.hid ((HBW.out _).trans (hb.mono (HBW.out _).size))
           have HK2 := Lib.hid ((HKW.out _).below hb (HKW.out _).lt)
           have HL2 := Lib.hid (HLw.out.below HB2.out)
           clear hb hv1)
        | ((with_reducible refine (HN2.out _ HL2.out).mono ?_); (rintro e w3 ⟨v2, rfl, hv2, hb⟩)
           have HV2 := Lib.hid hv2
           have HB3 := Lib.hid (HB2.out.trans (hb.mono HB2.out.size))
           have HK3 := Lib.hid (HK2.out.below hb HK2.out.lt)
           have x0 := HK3.out.cell 0
           have x1 := HK3.out.cell 1
           have x2 := HK3.out.cell 2
           have z0 := HK3.out.frozen 0
           have z1 := HK3.out.frozen 1
           have z2 := HK3.out.frozen 2
           clear hb hv2)))
  all_goals
    have fin := fun X Y Z => lim_end HK3.out (X := X) (Y := Y) (Z := Z) HB3.out
  all_goals first
    | (obtain ⟨f0, f1, f2, f3⟩ := fin (.int .i64 0) (.int .i64 0) (.bool false)
       refine bodyPost_ret (v := .tuple #[.agg #[.int .i64 0, .int .i64 0, .bool false], .int .i64 4]) ?_ rfl ?_
       · simp [results, go_sem, f0, f1, f2]
       · exact ⟨rfl, f3⟩)
    | (obtain ⟨f0, f1, f2, f3⟩ := fin (.int .i64 v1) (.int .i64 v2) (.bool wd)
       refine bodyPost_ret (v := .tuple #[.agg #[.int .i64 v1, .int .i64 v2, .bool wd], .int .i64 0]) ?_ rfl ?_
       · simp [results, go_sem, f0, f1, f2]
       · exact ⟨by rw [HV1.out _ rfl, HV2.out _ rfl]; rfl, f3⟩)
    | (obtain ⟨f0, f1, f2, f3⟩ := fin (.int .i64 v1) (.int .i64 (-1)) (.bool wd)
       refine bodyPost_ret (v := .tuple #[.agg #[.int .i64 v1, .int .i64 (-1), .bool wd], .int .i64 0]) ?_ rfl ?_
       · simp [results, go_sem, f0, f1, f2]
       · exact ⟨by rw [HV1.out _ rfl]; rfl, f3⟩)
theorem trimS_le (s p : List UInt8) : (Lib.trimSuffix s p).length ≤ s.length := by unfold Lib.trimSuffix; split <;> simp
theorem ParseLimits_any (s : List UInt8) (hs : s.length ≤ 100000) (w : World) (hL : Lw w) : Calls Tryd.prog 23 #[.string (bs s)] w (LiP (lmF s) w) := by
  have hd : ∀ x : List UInt8, (bs x).data.toList = x := fun x => by simp [bs]
  have ht := trimS_le s sfx
  have hdash : ((bs (Lib.cut (Lib.trimSuffix s sfx) [32]).2.1).toList == [45]) = decide ((Lib.cut (Lib.trimSuffix s sfx) [32]).2.1 = [45]) := by
    rw [Lib.toList_data, hd, Bool.eq_iff_iff]; simp
  have hnu : ∀ (x : List UInt8) W, Lw W → Calls Tryd.prog 54 #[.string (bs x)] W (NuQ (nmb x) W) := fun x W h => (number_any x W h).mono (by
    rintro e w' ⟨v, e1, e2, _, _, b⟩
    exact ⟨v, e1, e2, b⟩)
  have h := ParseLimits_gen (bs s) (bs (Lib.trimSuffix s sfx)) (bs (Lib.cut (Lib.trimSuffix s sfx) [32]).1) (bs (Lib.cut (Lib.trimSuffix s sfx) [32]).2.1) (Lib.hasSuffix s sfx) (Lib.cut (Lib.trimSuffix s sfx) [32]).2.2 _ (nmb (Lib.cut (Lib.trimSuffix s sfx) [32]).1) (nmb (Lib.cut (Lib.trimSuffix s sfx) [32]).2.1) w hL
    (fun W => by
      have := Tryd.strings_CutSuffix (bs s) ⟨#[32, 105, 54, 52]⟩ W (by rw [bs_size]; omega)
      rw [hd] at this
      exact this)
    (fun W h => by
      obtain ⟨m, h5, hm⟩ := h.mx
      have := Tryd.strings_Cut (bs (Lib.trimSuffix s sfx)) ⟨#[32]⟩ m W (by rw [bs_size]; omega) hm
      rw [hd] at this
      exact this)
    (hnu _) (hnu _) hdash
  unfold lmF nmD
  simp only [decide_eq_true_eq] at h
  exact h
/-- may they be? -/
def isR (a b m : Int) : Bool := decide (0 ≤ a) && (decide (a ≤ m) && (decide (b < 0) || (decide (a ≤ b) && decide (b ≤ m))))
set_option maxHeartbeats 4000000 in
set_option maxRecDepth 100000 in
theorem LRight_ok (a b m : Int) (wd : Bool) (w : World) : Calls Tryd.prog 25 #[.agg #[.int .i64 a, .int .i64 b, .bool wd], .int .i64 m] w fun e w' => e = .returned (.bool (isR a b m)) ∧ Below w.heap.size w w' := by
  have HB : Hid (Below w.heap.size w (w.alloc (.cells #[.int .i64 a, .int .i64 b, .bool wd] 40))) := Lib.hid ((Below.refl _ _).alloc (Nat.le_refl _) _)
  unfold isR
  by_cases h0 : 0 ≤ a
  · by_cases h1 : a ≤ m
    · by_cases h2 : b < 0
      · go_enter Tryd.func25, Tryd.ntmps25
        go_wp2
        all_goals
          go_ret
          exact ⟨by simp [h0, h1, h2] <;> (try omega), HB.out⟩
      · by_cases h3 : a ≤ b
        · by_cases h4 : b ≤ m
          · go_enter Tryd.func25, Tryd.ntmps25
            go_wp2
            all_goals
              go_ret
              exact ⟨by simp [h0, h1, h2, h3, h4] <;> (try omega), HB.out⟩
          · go_enter Tryd.func25, Tryd.ntmps25
            go_wp2
            all_goals
              go_ret
              exact ⟨by simp [h0, h1, h2, h3, h4] <;> (try omega), HB.out⟩
        · go_enter Tryd.func25, Tryd.ntmps25
          go_wp2
          all_goals
            go_ret
            exact ⟨by simp [h0, h1, h2, h3] <;> (try omega), HB.out⟩
    · go_enter Tryd.func25, Tryd.ntmps25
      go_wp2
      all_goals
        go_ret
        exact ⟨by simp [h0, h1] <;> (try omega), HB.out⟩
  · go_enter Tryd.func25, Tryd.ntmps25
    go_wp2
    all_goals
      go_ret
      exact ⟨by simp [h0] <;> (try omega), HB.out⟩
set_option maxRecDepth 100000 in
theorem LMost_ok (a b m : Int) (wd : Bool) (w : World) : Calls Tryd.prog 26 #[.agg #[.int .i64 a, .int .i64 b, .bool wd], .int .i64 m] w fun e w' => e = .returned (.int .i64 (if b < 0 then m else b)) ∧ Below w.heap.size w w' := by
  have HB : Hid (Below w.heap.size w (w.alloc (.cells #[.int .i64 a, .int .i64 b, .bool wd] 40))) := Lib.hid ((Below.refl _ _).alloc (Nat.le_refl _) _)
  by_cases h2 : b < 0
  · rw [if_pos h2]
    go_enter Tryd.func26, Tryd.ntmps26
    go_wp2
    go_ret
    exact ⟨rfl, HB.out⟩
  · rw [if_neg h2]
    go_enter Tryd.func26, Tryd.ntmps26
    go_wp2
    go_ret
    exact ⟨rfl, HB.out⟩
end Go.Proofs.YtalpkdnnclghaaaDoor
