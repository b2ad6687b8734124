/-
  types.number; limits' text.
-/
import Derived.Test.YtalpkdnnclghaaaDoorMy
import Derived.Test.YtalpkdnnclghaaaDoorSi
import Derived.Lib.AppendIntMem
import Derived.Lib.AtoiErrMem
namespace Go.Proofs.YtalpkdnnclghaaaDoor
open Go.RowKit Go.ChangeShapes Go.WideShapes Go.ChangeAt
set_option linter.unusedVariables false
set_option linter.unusedSimpArgs false
/-- what the law of limits wants of the variables -/
structure Lw (w : World) : Prop where
  mx : Mx w
  tab : Lib.TabIs Tryd.prog w "internal/strconv.uint64pow10" .u64 Lib.pow10Tab
  es : 6 < w.heap.size ∧ ∃ te pe, w.cell? ⟨6, 0, none⟩ = some (.iface te pe)
theorem Lw.below {w w' : World} (h : Lw w) (hb : Below w.heap.size w w') : Lw w' :=
  ⟨h.mx.below hb, Lib.tabBelow_of_tabIs h.tab w' hb, Nat.lt_of_lt_of_le h.es.1 hb.size, by
    obtain ⟨te, pe, e⟩ := h.es.2
    exact ⟨te, pe, (hb.cell (p := ⟨6, 0, none⟩) h.es.1).trans e⟩⟩
theorem Itoa_ok (n : Int) (h0 : -9223372036854775808 ≤ n) (h1 : n ≤ 9223372036854775807) (w : World) (hL : Lw w) :
    Calls Tryd.prog 55 #[.int .i64 n] w fun e w' => e = .returned (.string (bs (Lib.itoa n))) ∧ Below w.heap.size w w' := by
  refine (Tryd.strconv_Itoa n h0 h1 w hL.tab).mono ?_
  rintro e w' ⟨rfl, k, os, rfl⟩
  exact ⟨rfl, Lib.below_grow _ _ (Nat.le_refl _) _ _⟩
theorem bs_beq (a b : List UInt8) : ((bs a).toList == (bs b).toList) = (a == b) := by
  rw [Lib.toList_data, Lib.toList_data]; simp [bs]
def NuP (s : List UInt8) (w : World) (e : Ending) (w' : World) : Prop :=
  ∃ v, e = .returned (.tuple #[.int .i64 v, .bool (nmb s).isSome]) ∧ (∀ n, nmb s = some n → v = (n : Int)) ∧ -9223372036854775808 ≤ v ∧ v ≤ 9223372036854775807 ∧ Below w.heap.size w w'
set_option maxHeartbeats 4000000 in
set_option maxRecDepth 100000 in
theorem number_gen (s : List UInt8) (S : ByteArray) (hS : bs s = S) (hl : s.length ≤ 10) (v : Int) (h0 : -9223372036854775808 ≤ v) (h1 : v ≤ 9223372036854775807) (w : World) (hL : Lw w) (q : Bool)
    (hq : q = (decide (0 ≤ v) && (decide (v ≤ 1000000000) && (Lib.itoa v == s))))
    (hA : Calls Tryd.prog 71 #[.string S] w fun e w' => e = .returned (.tuple #[.int .i64 v, .nilIface]) ∧ Below w.heap.size w w') :
    Calls Tryd.prog 54 #[.string S] w fun e w' => e = .returned (.tuple #[.int .i64 v, .bool q]) ∧ Below w.heap.size w w' := by
  have hsz : S.size ≤ 10 := by rw [← hS, bs_size]; exact hl
  have hbq : ((bs (Lib.itoa v)).toList == S.toList) = (Lib.itoa v == s) := by rw [← hS, bs_beq]
  have HA := Lib.hid hA
  have HI := Lib.hid (fun W (hb : Below w.heap.size w W) => Itoa_ok v h0 h1 W (hL.below hb))
  clear hA hL hS hl
  generalize bs (Lib.itoa v) = I at HI hbq
  generalize (Lib.itoa v == s) = q2 at hbq hq
  by_cases g0 : 0 ≤ v
  · by_cases g1 : v ≤ 1000000000
    · have hq2 : q = q2 := by rw [hq]; simp [g0, g1]
      subst hq2
      clear hq
      go_enter Tryd.func54, Tryd.ntmps54
      go_wp2_with (first
        | (go_at_call 71; (with_reducible refine HA.out.mono ?_); rintro e w1 ⟨rfl, hb⟩; have HB := Lib.hid hb; clear hb)
        | (go_at_call 55; (with_reducible refine (HI.out _ HB.out).mono ?_); rintro e w2 ⟨rfl, hb⟩; have HB2 := Lib.hid (HB.out.trans (hb.mono HB.out.size)); clear hb))
      go_ret2
      exact ⟨rfl, HB2.out⟩
    · have hq2 : q = false := by rw [hq]; simp [g1]
      subst hq2
      clear hq
      go_enter Tryd.func54, Tryd.ntmps54
      go_wp2_with (go_at_call 71; (with_reducible refine HA.out.mono ?_); rintro e w1 ⟨rfl, hb⟩; have HB := Lib.hid hb; clear hb)
      go_ret2
      exact ⟨rfl, HB.out⟩
  · have hq2 : q = false := by rw [hq]; simp [g0]
    subst hq2
    clear hq
    go_enter Tryd.func54, Tryd.ntmps54
    go_wp2_with (go_at_call 71; (with_reducible refine HA.out.mono ?_); rintro e w1 ⟨rfl, hb⟩; have HB := Lib.hid hb; clear hb)
    go_ret2
    exact ⟨rfl, HB.out⟩
set_option maxRecDepth 100000 in
theorem number_syn (S : ByteArray) (hl : S.size ≤ 10) (w : World)
    (hA : Calls Tryd.prog 71 #[.string S] w fun e w' => (∃ N, e = .returned (.tuple #[.int .i64 0, .iface 149 (.pointer (some ⟨N, 0, none⟩))])) ∧ Below w.heap.size w w') :
    Calls Tryd.prog 54 #[.string S] w fun e w' => e = .returned (.tuple #[.int .i64 0, .bool false]) ∧ Below w.heap.size w w' := by
  have HA := Lib.hid hA
  clear hA
  go_enter Tryd.func54, Tryd.ntmps54
  go_wp2_with (go_at_call 71; (with_reducible refine HA.out.mono ?_); rintro e w1 ⟨⟨N, rfl⟩, hb⟩; have HB := Lib.hid hb; clear hb)
  go_ret2
  exact ⟨rfl, HB.out⟩
set_option maxRecDepth 100000 in
theorem number_long (S : ByteArray) (hl : 10 < S.size) (w : World) :
    Calls Tryd.prog 54 #[.string S] w fun e w' => e = .returned (.tuple #[.int .i64 0, .bool false]) ∧ Below w.heap.size w w' := by
  have h : (10 : Int) < (S.size : Int) := by omega
  clear hl
  go_enter Tryd.func54, Tryd.ntmps54
  go_wp2
  go_ret2
  exact ⟨rfl, Below.refl _ _⟩
theorem number_any (s : List UInt8) (w : World) (hL : Lw w) : Calls Tryd.prog 54 #[.string (bs s)] w (NuP s w) := by
  by_cases hl : s.length ≤ 10
  · have hd : (bs s).data.toList = s := by simp [bs]
    rcases atoi_short s hl with h | ⟨v, h⟩
    · have hn := nmb_syntax s h
      obtain ⟨te, pe, he⟩ := hL.es.2
      refine (number_syn (bs s) (by rw [bs_size]; exact hl) w ((Tryd.strconv_Atoi_syntax (bs s) (by rw [bs_size]; omega) (by rw [hd]; exact h) _ w he (.inr ⟨te, pe, rfl⟩)).mono ?_)).mono ?_
      · rintro e w' ⟨N, rfl, _, _, hb⟩
        exact ⟨⟨N, rfl⟩, hb⟩
      · rintro e w' ⟨rfl, hb⟩
        exact ⟨0, by rw [hn]; rfl, (fun n e => by rw [hn] at e; cases e), by decide, by decide, hb⟩
    · obtain ⟨k1, k2⟩ := nmb_atoi s v h
      obtain ⟨b0, b1⟩ := Lib.atoiAll_bounds h
      refine (number_gen s (bs s) rfl hl v b0 b1 w hL _ k1 ((Tryd.strconv_Atoi_ok (bs s) (by rw [bs_size]; omega) v (by rw [hd]; exact h) w).mono ?_)).mono ?_
      · rintro e w' ⟨rfl, hw⟩
        refine ⟨rfl, ?_⟩
        rcases hw with rfl | ⟨t, rfl⟩
        · exact Below.refl _ _
        · exact Lib.bytesWorld_below _ _ _
      · rintro e w' ⟨rfl, hb⟩
        exact ⟨v, rfl, k2, b0, b1, hb⟩
  · have hn := nmb_long (s := s) (by omega)
    refine (number_long (bs s) (by rw [bs_size]; omega) w).mono ?_
    rintro e w' ⟨rfl, hb⟩
    exact ⟨0, by rw [hn]; rfl, (fun n e => by rw [hn] at e; cases e), by decide, by decide, hb⟩
/-- limits' text -/
def lmT (a b : Int) (wd : Bool) : List UInt8 := Lib.itoa a ++ ([32] ++ ((if b < 0 then [45] else Lib.itoa b) ++ (if wd then [32, 105, 54, 52] else [])))
theorem itoa_len (n : Int) (h0 : -9223372036854775808 ≤ n) (h1 : n ≤ 9223372036854775807) : (Lib.itoa n).length ≤ 21 := by
  unfold Lib.itoa
  split
  · have := dec_len 19 n.natAbs (by omega)
    simp only [List.length_cons]; omega
  · have := dec_len 19 n.toNat (by omega)
    omega
set_option maxHeartbeats 4000000 in
set_option maxRecDepth 100000 in
theorem LPrint_ok (a b : Int) (wd : Bool) (ha0 : -9223372036854775808 ≤ a) (ha1 : a ≤ 9223372036854775807) (hb0 : -9223372036854775808 ≤ b) (hb1 : b ≤ 9223372036854775807) (w : World) (hL : Lw w) :
    Calls Tryd.prog 24 #[.agg #[.int .i64 a, .int .i64 b, .bool wd]] w fun e w' => e = .returned (.string (bs (lmT a b wd))) ∧ Below w.heap.size w w' := by
  have hb : Below w.heap.size w (w.alloc (.cells #[.int .i64 a, .int .i64 b, .bool wd] 40)) := (Below.refl _ _).alloc (Nat.le_refl _) _
  have HI := Lib.hid (fun n h0 h1 W (h : Below w.heap.size w W) => Itoa_ok n h0 h1 W (hL.below h))
  have HB := Lib.hid hb
  have HK : Hid (∀ W, Below (w.alloc (.cells #[.int .i64 a, .int .i64 b, .bool wd] 40)).heap.size (w.alloc (.cells #[.int .i64 a, .int .i64 b, .bool wd] 40)) W → Blk W w.heap.size 40 #[.int .i64 a, .int .i64 b, .bool wd]) := Lib.hid (fun W h => (Blk.new w 40 _).below h (by simp))
  have la := itoa_len a ha0 ha1
  have lb := itoa_len b hb0 hb1
  have f1 : Op.stringOp .add (bs (Lib.itoa a)) ⟨#[32]⟩ = pure (.string (bs (Lib.itoa a ++ [32]))) := cat_bs _ [32] (by simp; omega)
  clear hL hb
  by_cases hn : b < 0
  · have f2 : Op.stringOp .add (bs (Lib.itoa a ++ [32])) ⟨#[45]⟩ = pure (.string (bs (Lib.itoa a ++ [32] ++ [45]))) := cat_bs _ [45] (by simp; omega)
    have f3 : Op.stringOp .add (bs (Lib.itoa a ++ [32] ++ [45])) ⟨#[32, 105, 54, 52]⟩ = pure (.string (bs (Lib.itoa a ++ [32] ++ [45] ++ [32, 105, 54, 52]))) := cat_bs _ [32, 105, 54, 52] (by simp; omega)
    have HE : Hid (lmT a b wd = if wd then Lib.itoa a ++ [32] ++ [45] ++ [32, 105, 54, 52] else Lib.itoa a ++ [32] ++ [45]) := Lib.hid (by unfold lmT; rw [if_pos hn]; cases wd <;> simp)
    clear la lb
    generalize Lib.itoa a ++ [32] ++ [45] ++ [32, 105, 54, 52] = x3 at f3 HE
    generalize Lib.itoa a ++ [32] ++ [45] = x2 at f2 f3 HE
    generalize Lib.itoa a ++ [32] = x1 at f1 f2
    have HI1 := Lib.hid (HI.out a ha0 ha1 _ HB.out)
    generalize Lib.itoa a = xa at f1 HI1
    clear HI
    cases wd
    all_goals
      go_enter Tryd.func24, Tryd.ntmps24
      go_wp2_with (go_at_call 55; (with_reducible refine HI1.out.mono ?_); rintro e w1 ⟨rfl, hb⟩
                   have hk := HK.out _ hb
                   have y1 := hk.cell 1
                   have y2 := hk.cell 2
                   have HB1 := Lib.hid (HB.out.trans (hb.mono HB.out.size))
                   clear hb hk)
      go_ret
      exact ⟨by rw [HE.out]; rfl, HB1.out⟩
  · have HE : Hid (lmT a b wd = if wd then Lib.itoa a ++ [32] ++ Lib.itoa b ++ [32, 105, 54, 52] else Lib.itoa a ++ [32] ++ Lib.itoa b) := Lib.hid (by unfold lmT; rw [if_neg hn]; cases wd <;> simp)
    have f2 := cat_bs (Lib.itoa a ++ [32]) (Lib.itoa b) (by simp; omega)
    have f3 : Op.stringOp .add (bs (Lib.itoa a ++ [32] ++ Lib.itoa b)) ⟨#[32, 105, 54, 52]⟩ = pure (.string (bs (Lib.itoa a ++ [32] ++ Lib.itoa b ++ [32, 105, 54, 52]))) := cat_bs _ [32, 105, 54, 52] (by simp; omega)
    clear la lb
    generalize Lib.itoa a ++ [32] ++ Lib.itoa b ++ [32, 105, 54, 52] = x3 at f3 HE
    generalize Lib.itoa a ++ [32] ++ Lib.itoa b = x2 at f2 f3 HE
    generalize Lib.itoa a ++ [32] = x1 at f1 f2
    have HI1 := Lib.hid (HI.out a ha0 ha1 _ HB.out)
    have HI2 := Lib.hid (HI.out b hb0 hb1)
    generalize Lib.itoa a = xa at f1 HI1
    generalize Lib.itoa b = xb at f2 HI2
    clear HI
    cases wd
    all_goals
      go_enter Tryd.func24, Tryd.ntmps24
      go_wp2_with (go_at_call 55; first
        | ((with_reducible refine HI1.out.mono ?_); rintro e w1 ⟨rfl, hb⟩
           have hk := HK.out _ hb
           have y1 := hk.cell 1
           have y2 := hk.cell 2
           have HB1 := Lib.hid (HB.out.trans (hb.mono HB.out.size))
           have HW1 := Lib.hid hb
           clear hb hk)
        | ((with_reducible refine (HI2.out _ HB1.out).mono ?_); rintro e w2 ⟨rfl, hb⟩
           have hk := HK.out _ (HW1.out.trans (hb.mono HW1.out.size))
           have z1 := hk.cell 1
           have z2 := hk.cell 2
           have HB2 := Lib.hid (HB1.out.trans (hb.mono HB1.out.size))
           clear hb hk))
      go_ret
      exact ⟨by rw [HE.out]; rfl, HB2.out⟩
end Go.Proofs.YtalpkdnnclghaaaDoor
