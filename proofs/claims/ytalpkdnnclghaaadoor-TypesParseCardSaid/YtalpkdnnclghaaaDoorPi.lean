/-
  Called with any string, grommetlaw09.TypesParse returns true, the tables unicode/utf8.acceptRanges and unicode/utf8.first lying as the program's text lays them; no other condition.
-/
import Derived.Test.YtalpkdnnclghaaaDoorNr
import Derived.Test.YtalpkdnnclghaaaDoorCards
import Derived.Deep.RegionHeld3
import Derived.WalkKit
import Derived.ProofKit
import Derived.OpenShut
import Derived.ShutString
import Derived.ChangeOld
import Derived.Below
import Derived.ChangeMaps5
namespace Go.Proofs.YtalpkdnnclghaaaDoor
open Go.ChangeShapes Go.WideShapes Go.ChangeAt Go.RowKit
open Go.ChangeMaps (open_string shut_string)
set_option linter.unusedVariables false
set_option linter.unusedSimpArgs false

set_option maxHeartbeats 4000000 in
set_option maxRecDepth 100000 in
theorem parse_long (S : ByteArray) (w : World) (hM : Mx w) (h : 300 < S.size) :
    Calls Tryd.prog 4 #[.string S] w fun e w' => e = .returned (.bool true) ∧ Below w.heap.size w w' := by
  obtain ⟨m, h5, hm⟩ := hM
  have HA := Lib.hid (awake9_any m w h5 hm)
  have k0' : (300 : Int) < (S.size : Int) := by omega
  clear hm h5 h
  go_enter Tryd.func4, Tryd.ntmps4
  go_wp2_with (go_at_call 13; (with_reducible refine HA.out.mono ?_); rintro e w1 ⟨rfl, hb⟩; have HB := Lib.hid hb; clear hb)
  go_ret
  exact ⟨rfl, HB.out⟩
set_option maxHeartbeats 4000000 in
set_option maxRecDepth 100000 in
theorem parse_none (s : List UInt8) (S : ByteArray) (hS : bs s = S) (w : World) (hM : Mx w) (h : s.length ≤ 300) (hg : sgL s = none) :
    Calls Tryd.prog 4 #[.string S] w fun e w' => e = .returned (.bool true) ∧ Below w.heap.size w w' := by
  have HM := Lib.hid hM
  obtain ⟨m, h5, hm⟩ := hM
  have HA := Lib.hid (awake9_any m w h5 hm)
  have k0' : ¬ (300 : Int) < (S.size : Int) := by rw [← hS, bs_size]; omega
  have PS : Hid (∀ W, Mx W → Calls Tryd.prog 16 #[.string S] W fun e w' => (∃ A c B d, e = .returned (.tuple #[.agg #[.slice A 0 c, .slice B 0 d], .int .i64 4])) ∧ Below W.heap.size W w') := Lib.hid (fun W hM => by
    obtain ⟨m, h5, hm⟩ := hM
    rw [← hS]
    exact ParseSig_no hg (by omega) m W h5 hm)
  have RS : Hid (∀ W, Calls Tryd.prog 21 #[.string S] W (SiP none W)) := Lib.hid (fun W => by
    have := RSig_any s h W
    rwa [hS, hg] at this)
  clear hm h5 h hg hS
  go_enter Tryd.func4, Tryd.ntmps4
  go_wp2_with (first
    | (go_at_call 13; (with_reducible refine HA.out.mono ?_); rintro e w1 ⟨rfl, hb⟩
       have HB := Lib.hid hb
       have HM1 := Lib.hid (HM.out.below hb)
       clear hb)
    | (go_at_call 16; (with_reducible refine (PS.out _ HM1.out).mono ?_); (rintro e w2 ⟨⟨A, c, B, d, rfl⟩, hb⟩)
       have HB2 := Lib.hid (HB.out.trans (hb.mono HB.out.size))
       have HB3 := Lib.hid (HB2.out.alloc HB2.out.size (Obj.cells #[Value.slice A 0 c, Value.slice B 0 d] 27))
       have HK := Lib.hid (Blk.new w2 27 #[Value.slice A 0 c, Value.slice B 0 d])
       clear hb)
    | (go_at_call 21; (with_reducible refine (RS.out _).mono ?_); (rintro e w3 ⟨rfl, hb⟩)
       have HB4 := Lib.hid (HB3.out.trans (hb.mono HB3.out.size))
       have hk := HK.out.below hb (by simp)
       have x0 := hk.cell 0
       have x1 := hk.cell 1
       clear hb hk))
  go_ret
  exact ⟨rfl, HB4.out⟩
set_option maxHeartbeats 8000000 in
set_option maxRecDepth 100000 in
theorem parse_some (s : List UInt8) (S : ByteArray) (l r : List Nat) (hS : bs s = S) (w : World) (hM : Mx w) (h : s.length ≤ 300) (hg : sgL s = some (l, r)) :
    Calls Tryd.prog 4 #[.string S] w fun e w' => e = .returned (.bool true) ∧ Below w.heap.size w w' := by
  have HM := Lib.hid hM
  obtain ⟨m, h5, hm⟩ := hM
  have HA := Lib.hid (awake9_any m w h5 hm)
  have k0' : ¬ (300 : Int) < (S.size : Int) := by rw [← hS, bs_size]; omega
  have PS : Hid (∀ W, Mx W → Calls Tryd.prog 16 #[.string S] W (SgY l r W)) := Lib.hid (fun W hM => by
    obtain ⟨m, h5, hm⟩ := hM
    rw [← hS]
    exact ParseSig_yes hg (by omega) m W h5 hm)
  have RS : Hid (∀ W, Calls Tryd.prog 21 #[.string S] W (SiP (some (l, r)) W)) := Lib.hid (fun W => by
    have := RSig_any s h W
    rwa [hS, hg] at this)
  obtain ⟨q1, q2, _⟩ := sgL_some hg
  have HX1 := Lib.hid (isT_lt q1)
  have HX2 := Lib.hid (isT_lt q2)
  have HN1 : Hid (l.length ≤ 1000) := Lib.hid (by unfold okL at q1; simp at q1; omega)
  have HN2 : Hid (r.length ≤ 1000) := Lib.hid (by unfold okL at q2; simp at q2; omega)
  clear hm h5 h hg hS q1 q2
  go_enter Tryd.func4, Tryd.ntmps4
  go_wp2_with (first
    | (go_at_call 13; (with_reducible refine HA.out.mono ?_); rintro e w1 ⟨rfl, hb⟩
       have HB := Lib.hid hb
       have HM1 := Lib.hid (HM.out.below hb)
       clear hb)
    | (go_at_call 16; (with_reducible refine (PS.out _ HM1.out).mono ?_); (rintro e w2 ⟨A, c, B, d, rfl, hx, hy, hb⟩)
       have HB2 := Lib.hid (HB.out.trans (hb.mono HB.out.size))
       have HB3 := Lib.hid (HB2.out.alloc HB2.out.size (Obj.cells #[Value.slice A l.length c, Value.slice B r.length d] 27))
       have HK := Lib.hid (Blk.new w2 27 #[Value.slice A l.length c, Value.slice B r.length d])
       have YX := Lib.hid (hx.below ((Below.refl _ w2).alloc (Nat.le_refl _) (Obj.cells #[Value.slice A l.length c, Value.slice B r.length d] 27)))
       have YY := Lib.hid (hy.below ((Below.refl _ w2).alloc (Nat.le_refl _) (Obj.cells #[Value.slice A l.length c, Value.slice B r.length d] 27)))
       clear hb hx hy)
    | (go_at_call 21; (with_reducible refine (RS.out _).mono ?_); (rintro e w3 ⟨v1, v2, rfl, o1, o2, hb⟩)
       obtain ⟨A3, c3, rfl⟩ := own_slice o1
       obtain ⟨B3, d3, rfl⟩ := own_slice o2
       have HB4 := Lib.hid (HB3.out.trans (hb.mono HB3.out.size))
       have HK4 := Lib.hid (HK.out.below hb (by simp))
       have YX4 := Lib.hid (YX.out.below hb)
       have YY4 := Lib.hid (YY.out.below hb)
       have YP := Lib.hid (Byt.own o1 HX1.out)
       have YR := Lib.hid (Byt.own o2 HX2.out)
       clear hb o1 o2 HK YX YY))
  have HX9 : Hid (∀ W, Below w3.heap.size w3 W → W.cell? ⟨w2.heap.size, 0, none⟩ = some (Value.slice A l.length c) ∧ W.cell? ⟨w2.heap.size, 1, none⟩ = some (Value.slice B r.length d)) := Lib.hid (fun W h =>
    ⟨(HK4.out.below h HK4.out.lt).cell 0, (HK4.out.below h HK4.out.lt).cell 1⟩)
  have T1 : Hid (∀ W, Below w3.heap.size w3 W → Calls Tryd.prog 14 #[.slice A3 l.length c3] W (LPost l W)) := Lib.hid (fun W h => To_ok A3 l.length c3 l HN1.out W (YP.out.below h))
  have T2 : Hid (∀ W, Below w3.heap.size w3 W → Calls Tryd.prog 14 #[.slice B3 r.length d3] W (LPost r W)) := Lib.hid (fun W h => To_ok B3 r.length d3 r HN2.out W (YR.out.below h))
  have SS : Hid (∀ W A4 c4 B4 d4, Below w3.heap.size w3 W → Byt W A4 l.length c4 l → Byt W B4 r.length d4 r → Calls Tryd.prog 20 #[.agg #[.slice A l.length c, .slice B r.length d], .agg #[.slice A4 l.length c4, .slice B4 r.length d4]] W fun e w' => e = .returned (.bool true) ∧ Below W.heap.size W w') := Lib.hid (fun W A4 c4 B4 d4 h y1 y2 => by
    have := SigSame_ok A B A4 B4 l.length r.length l.length r.length c d c4 d4 l r l r HN1.out HN2.out HN1.out HN2.out W (YX4.out.below h) (YY4.out.below h) y1 y2
    rwa [show decide (l = l) = true by simp, show decide (r = r) = true by simp, Bool.true_and] at this)
  have HD6 : Hid (Below w3.heap.size w3 w3.drew) := Lib.hid (bdD (Below.refl _ _))
  generalize w2.heap.size = b9 at HX9
  refine wp_region_held_drew (S := (fun W => Below w3.heap.size w3 W)) (by kernel_rfl) HD6.out (fun hHeld => ?_)
  refine wpAnyH_take (i := 0) (oi := ?oi_1) (v := ?_) ?hi_1 (by kernel_rfl) ?hf_1 (by kernel_rfl) ?hQ_1 ?hy_1 (by assumption) ?_
  case hi_1 => simp only [List.getElem?_toArray, List.getElem?_cons_zero, List.getElem?_cons_succ]; rfl
  case hf_1 => kernel_rfl
  case hQ_1 => exact fun _ _ _ h => h
  case hy_1 =>
    refine Or.inl ⟨by rfl, ?_⟩
    intro W hSw
    go_simp
    try with_reducible rfl
  try simp only [Act.put, List.setIfInBounds_toArray, List.set_cons_zero, List.set_cons_succ]
  refine wpAnyH_take (i := 1) (oi := ?oi_2) (v := ?_) ?hi_2 (by kernel_rfl) ?hf_2 (by kernel_rfl) ?hQ_2 ?hy_2 (by assumption) ?_
  case hi_2 => simp only [List.getElem?_toArray, List.getElem?_cons_zero, List.getElem?_cons_succ]; rfl
  case hf_2 => kernel_rfl
  case hQ_2 => exact fun _ _ _ h => h
  case hy_2 =>
    refine Or.inl ⟨by rfl, ?_⟩
    intro W hSw
    go_simp
    try with_reducible rfl
  try simp only [Act.put, List.setIfInBounds_toArray, List.set_cons_zero, List.set_cons_succ]
  refine wpAnyH_take (i := 2) (oi := ?oi_3) (v := ?_) ?hi_3 (by kernel_rfl) ?hf_3 (by kernel_rfl) ?hQ_3 ?hy_3 (by assumption) ?_
  case hi_3 => simp only [List.getElem?_toArray, List.getElem?_cons_zero, List.getElem?_cons_succ]; rfl
  case hf_3 => kernel_rfl
  case hQ_3 => exact fun _ _ _ h => h
  case hy_3 =>
    refine Or.inl ⟨by rfl, ?_⟩
    intro W hSw
    go_simp
    try with_reducible rfl
  try simp only [Act.put, List.setIfInBounds_toArray, List.set_cons_zero, List.set_cons_succ]
  refine wpAnyH_take (i := 3) (oi := ?oi_4) (v := ?_) ?hi_4 (by kernel_rfl) ?hf_4 (by kernel_rfl) ?hQ_4 ?hy_4 (by assumption) ?_
  case hi_4 => simp only [List.getElem?_toArray, List.getElem?_cons_zero, List.getElem?_cons_succ]; rfl
  case hf_4 => kernel_rfl
  case hQ_4 => exact fun _ _ _ h => h
  case hy_4 =>
    refine Or.inl ⟨by rfl, ?_⟩
    intro W hSw
    have x0 := (HX9.out W hSw).1
    have x1 := (HX9.out W hSw).2
    go_simp
    try with_reducible rfl
  try simp only [Act.put, List.setIfInBounds_toArray, List.set_cons_zero, List.set_cons_succ]
  refine wpAnyH_take (i := 4) (oi := ?oi_5) (v := ?_) ?hi_5 (by kernel_rfl) ?hf_5 (by kernel_rfl) ?hQ_5 ?hy_5 (by assumption) ?_
  case hi_5 => simp only [List.getElem?_toArray, List.getElem?_cons_zero, List.getElem?_cons_succ]; rfl
  case hf_5 => kernel_rfl
  case hQ_5 => exact fun _ _ _ h => h
  case hy_5 =>
    refine Or.inl ⟨by rfl, ?_⟩
    intro W hSw
    go_simp
    try with_reducible rfl
  try simp only [Act.put, List.setIfInBounds_toArray, List.set_cons_zero, List.set_cons_succ]
  refine wpAnyH_take (i := 6) (oi := ?oi_6) (v := ?_) ?hi_6 (by kernel_rfl) ?hf_6 (by kernel_rfl) ?hQ_6 ?hy_6 (by assumption) ?_
  case hi_6 => simp only [List.getElem?_toArray, List.getElem?_cons_zero, List.getElem?_cons_succ]; rfl
  case hf_6 => kernel_rfl
  case hQ_6 => exact fun _ _ _ h => h
  case hy_6 =>
    refine Or.inl ⟨by rfl, ?_⟩
    intro W hSw
    go_simp
    try with_reducible rfl
  try simp only [Act.put, List.setIfInBounds_toArray, List.set_cons_zero, List.set_cons_succ]
  refine wpAnyH_ready (rs := [5]) (by kernel_rfl) (by simp) ?_
  refine AllReadyH.cons (o := ?oi_7) ?hi_7 (fun K hK => ?_) AllReadyH.nil
  case hi_7 => simp only [List.getElem?_toArray, List.getElem?_cons_zero, List.getElem?_cons_succ]; rfl
  go_simp
  (go_at_call 14
   with_reducible refine (T1.out _ HD6.out).mono ?_
   rintro e w4 ⟨v4, rfl, o4, hbn⟩
   obtain ⟨A4, c4, rfl⟩ := own_slice o4
   have HC1 : Hid (Below w3.heap.size w3 w4) := Lib.hid (HD6.out.trans (hbn.mono HD6.out.size))
   have Y4 := Lib.hid (Byt.own o4 HX1.out)
   clear hbn o4)
  refine hK.out _ _ HC1.out (fun hHeld => ?_)
  clear hK K
  try simp only [Act.put, List.setIfInBounds_toArray, List.set_cons_zero, List.set_cons_succ]
  refine wpAnyH_ready (rs := [7]) (by kernel_rfl) (by simp) ?_
  refine AllReadyH.cons (o := ?oi_8) ?hi_8 (fun K hK => ?_) AllReadyH.nil
  case hi_8 => simp only [List.getElem?_toArray, List.getElem?_cons_zero, List.getElem?_cons_succ]; rfl
  go_simp
  (go_at_call 14
   with_reducible refine (T2.out _ HC1.out).mono ?_
   rintro e w5 ⟨v5, rfl, o5, hbn⟩
   obtain ⟨B4, d4, rfl⟩ := own_slice o5
   have HC2 : Hid (Below w3.heap.size w3 w5) := Lib.hid (HC1.out.trans (hbn.mono HC1.out.size))
   have Y5 := Lib.hid (Byt.own o5 HX2.out)
   have Y45 := Lib.hid (Y4.out.below hbn)
   clear hbn o5)
  refine hK.out _ _ HC2.out (fun hHeld => ?_)
  clear hK K
  try simp only [Act.put, List.setIfInBounds_toArray, List.set_cons_zero, List.set_cons_succ]
  refine wpAnyH_take (i := 8) (oi := ?oi_9) (v := ?_) ?hi_9 (by kernel_rfl) ?hf_9 (by kernel_rfl) ?hQ_9 ?hy_9 (by assumption) ?_
  case hi_9 => simp only [List.getElem?_toArray, List.getElem?_cons_zero, List.getElem?_cons_succ]; rfl
  case hf_9 => kernel_rfl
  case hQ_9 => exact fun _ _ _ h => h
  case hy_9 =>
    refine Or.inl ⟨by rfl, ?_⟩
    intro W hSw
    go_simp
    try with_reducible rfl
  try simp only [Act.put, List.setIfInBounds_toArray, List.set_cons_zero, List.set_cons_succ]
  refine wpAnyH_ready (rs := [9]) (by kernel_rfl) (by simp) ?_
  refine AllReadyH.cons (o := ?oi_10) ?hi_10 (fun K hK => ?_) AllReadyH.nil
  case hi_10 => simp only [List.getElem?_toArray, List.getElem?_cons_zero, List.getElem?_cons_succ]; rfl
  go_simp
  (go_at_call 20
   with_reducible refine (SS.out _ _ _ _ _ HC2.out Y45.out Y5.out).mono ?_
   rintro e w6 ⟨rfl, hbn⟩
   have HC3 : Hid (Below w3.heap.size w3 w6) := Lib.hid (HC2.out.trans (hbn.mono HC2.out.size))
   clear hbn)
  refine hK.out _ _ HC3.out (fun hHeld => ?_)
  clear hK K
  try simp only [Act.put, List.setIfInBounds_toArray, List.set_cons_zero, List.set_cons_succ]
  refine wpAnyH_take (i := 10) (oi := ?oi_11) (v := ?_) ?hi_11 (by kernel_rfl) ?hf_11 (by kernel_rfl) ?hQ_11 ?hy_11 (by assumption) ?_
  case hi_11 => simp only [List.getElem?_toArray, List.getElem?_cons_zero, List.getElem?_cons_succ]; rfl
  case hf_11 => kernel_rfl
  case hQ_11 => exact fun _ _ _ h => h
  case hy_11 =>
    refine Or.inl ⟨by rfl, ?_⟩
    intro W hSw
    go_simp
    try with_reducible rfl
  try simp only [Act.put, List.setIfInBounds_toArray, List.set_cons_zero, List.set_cons_succ]
  refine wpAnyH_take (i := 11) (oi := ?oi_12) (v := ?_) ?hi_12 (by kernel_rfl) ?hf_12 (by kernel_rfl) ?hQ_12 ?hy_12 (by assumption) ?_
  case hi_12 => simp only [List.getElem?_toArray, List.getElem?_cons_zero, List.getElem?_cons_succ]; rfl
  case hf_12 => kernel_rfl
  case hQ_12 => exact fun _ _ _ h => h
  case hy_12 =>
    refine Or.inl ⟨by rfl, ?_⟩
    intro W hSw
    go_simp
    try with_reducible rfl
  try simp only [Act.put, List.setIfInBounds_toArray, List.set_cons_zero, List.set_cons_succ]
  refine wpAnyH_done (by kernel_rfl) ?_ _
  clear hHeld
  go_wp2
  go_ret
  exact ⟨by simp, HB4.out.trans (HC3.out.mono HB4.out.size)⟩
theorem typesParse_walk (S : ByteArray) (w : World) (w0 : S.size ≤ maxLen) (hM : Mx w) :
    Calls Tryd.prog 4 #[.string S] w fun e w' => e = .returned (.bool true) ∧ Below w.heap.size w w' := by
  by_cases h : 300 < S.size
  · exact parse_long S w hM h
  · have e := bs_data S
    have hl : S.data.toList.length ≤ 300 := by
      have := bs_size S.data.toList
      rw [e] at this; omega
    cases hg : sgL S.data.toList with
    | none => exact parse_none _ S e w hM hl hg
    | some p => exact parse_some _ S p.1 p.2 e w hM hl hg

set_option maxRecDepth 100000 in
theorem typesParse_lifted (os : Os) (started : os.Started) (H : Type) (enc : TypeId × Value → H) :
    ReturnsInHanded {} Tryd.checked os 4 .any (fun w args => (Rows.typesParseSpec.pre enc Tryd.prog Tryd.f4 [] false w args ∧ laidMetH Tryd.prog laidY w) ∧ sizedMet enc Tryd.prog Tryd.f4 (OpenSpec.ofChange Rows.typesParseSpec) false w args) (Rows.typesParseSpec.post enc Tryd.prog Tryd.f4 false true false false) := by
  refine returnsInHanded_of_change_and_sh (C := Tryd.checked) (X := fun w _ => laidMetH Tryd.prog laidY w) (fun _ _ _ hh h => h.of_heap hh) Tryd.own started (by kernel_rfl) Tryd.func4
    (ChangeSpec.witness_shaped (enc := enc) (C := Tryd.checked) (os := os) (X := fun w _ => laidMetH Tryd.prog laidY w) false (World.laidAll Tryd.prog os laidY) #[.string ⟨#[]⟩] 8 (World.laidAll_os _ _ _) (World.shaped_of_ZipB (by kernel_rfl) (by kernel_rfl)) (by kernel_rfl) (by kernel_rfl) (by kernel_rfl) (laidY_met os _)) ?_
  intro W base args ds gs before hval0 hW _ _ hL hsh _
  have hval : ∀ (j : Nat) t v, Tryd.f4.params[j]? = some t → args[j]? = some v → Value.okWide Tryd.prog W .any base t v := hval0
  have hW' := hW
  obtain ⟨p, q, hA0, hV, rfl, hfz, hnd⟩ := hW
  have hA : DataW.TrodAll enc Tryd.prog W 0 (fun _ => true) true Tryd.f4.params.toList args.toList ds p := hA0
  rw [Tryd.params4] at hA hval
  obtain ⟨v0, vs0, d0, ds0, p0, q0, hargs, rfl, rfl, h0, r0⟩ := trodAll_cons hA
  obtain ⟨rfl, rfl, rfl⟩ := trodAll_nil r0
  obtain rfl : args = #[v0] := by cases args; simp_all
  obtain ⟨rfl, rfl⟩ := trodVars_none hV
  obtain ⟨a0, rfl, rfl, rfl, w0⟩ := open_string Tryd.underlying9 (hval 0 9 v0 rfl rfl) h0
  clear hA0 hval0
  refine (typesParse_walk a0 W w0 (mx_of hsh)).mono fun e W' ⟨he, hg⟩ => ?_
  subst he
  exact ⟨_, rfl, _, _, _, [], _, [], hW', trodAll_mk1 (shut_bool Tryd.underlying4 _), (trodAll_cons_mk (shut_string Tryd.underlying9 w0) trodAll_mk0), rfl, hg.frame _, fun h => by cases h⟩

theorem typesParse_over : Rows.typesParseRow.holds Tryd.pinned (OpenSpec.ofChange Rows.typesParseSpec) :=
  OpenClaim.holds_of_wide 4 Tryd.f4 rfl rfl rfl rfl rfl rfl rfl ⟨rfl, rfl, rfl, rfl, rfl⟩ rfl rfl rfl rfl rfl (by kernel_rfl) Tryd.func4 (by kernel_rfl)
    (of_decide_eq_true (by kernel_rfl)) (by unfold Func.isWrapper; first | (rw [if_pos (by decide +kernel)]; kernel_rfl) | (rw [if_neg (by decide +kernel)]; exact ⟨rfl, rfl⟩))
    (fun os started H enc _ => typesParse_lifted os started H enc)

theorem typesParse_proved : Rows.TypesParseCardSaid :=
  Claim7.holds_tied_plain_at .later [] [.data, .pinned] true (true, "4363a9f1bcaa13f3b457e37f1a1b0955e8ef81f2314578975e89844add95430d") true
    typesParse_over (fun _ h => by cases h) (by kernel_rfl) (fun _ h => by cases h) typesParse_row_tie rfl ⟨rfl, rfl⟩ (by kernel_rfl) rfl
    (fun f fn hf hfn => by
      obtain rfl : f = 4 := Option.some.inj ((show Tryd.prog.funcNamed "grommet/grommetlaw09.TypesParse" = some 4 by kernel_rfl).symm.trans hf) |>.symm
      obtain rfl : fn = Tryd.f4 := (Option.some.inj (Tryd.func4.symm.trans hfn)).symm
      exact ⟨by kernel_rfl, fun j t ht => by
        rw [Tryd.params4] at ht
        have hm : t ∈ [9] := by simpa using Array.mem_of_getElem? ht
        have hall : ([9].all fun u => !Tryd.prog.wantsStandIn u) = true := by kernel_rfl
        exact (show Tryd.prog.wantsStandIn t = false by simpa using List.all_eq_true.1 hall t hm)⟩)
    (by kernel_rfl)
#print axioms typesParse_proved
end Go.Proofs.YtalpkdnnclghaaaDoor
