/-
  What may be: types.right, Sig.Right, the law's right.
-/
import Derived.Test.YtalpkdnnclghaaaDoorNm
namespace Go.Proofs.YtalpkdnnclghaaaDoor
open Go.RowKit Go.ChangeShapes Go.WideShapes Go.ChangeAt
set_option linter.unusedVariables false
set_option linter.unusedSimpArgs false
theorem isT_or (t : Nat) : isT t = (t == 127 || t == 126) := rfl
set_option maxRecDepth 100000 in
/-- the closure of types.right -/
theorem unT_gen (t b : Nat) (u : Bool) (hu : ((b : Int) == 0) = u) (w : World) (hB : ∀ W, Calls Tryd.prog 30 #[.int .u8 t] W fun e w' => e = .returned (.int .i64 b) ∧ W = w') :
    Calls Tryd.prog 69 #[.int .u8 t] w fun e w' => e = .returned (.bool u) ∧ w = w' := by
  have HB := Lib.hid hB
  clear hB
  go_enter Tryd.func69, Tryd.ntmps69
  go_wp2_with (go_at_call 30; (with_reducible refine (HB.out _).mono ?_); rintro e w1 ⟨rfl, rfl⟩)
  go_ret
  exact ⟨rfl, rfl⟩
theorem unT_ok (t : Nat) (ht : t < 256) (w : World) : Calls Tryd.prog 69 #[.int .u8 t] w fun e w' => e = .returned (.bool (!isT t)) ∧ w = w' := by
  refine unT_gen t (btT t) _ ?_ w (Bits_ok t ht)
  unfold btT isT
  by_cases h : t = 127
  · subst h; rfl
  · by_cases h' : t = 126
    · subst h'; rfl
    · simp [h, h']
theorem all_take {l : List Nat} {k : Nat} (hk : k < l.length) (h : (l.take k).all isT = true) (ht : isT (l.getD k 0) = true) : (l.take (k + 1)).all isT = true := by
  rw [take_more l k hk, List.all_append, h]; simp only [List.all_cons, List.all_nil, ht, Bool.and_true]
theorem all_not {l : List Nat} {k : Nat} (hk : k < l.length) (ht : isT (l.getD k 0) = false) : l.all isT = false := by
  rw [List.all_eq_false]
  refine ⟨l[k], List.getElem_mem hk, ?_⟩
  rw [List.getD_eq_getElem?_getD, List.getElem?_eq_getElem hk] at ht
  simpa using ht
def IxP (l : List Nat) (w : World) (e : Ending) (w' : World) : Prop := ∃ i : Int, e = .returned (.int .i64 i) ∧ decide (0 ≤ i) = !(l.all isT) ∧ w = w'
set_option maxHeartbeats 4000000 in
set_option maxRecDepth 100000 in
theorem IndexFunc_ok (A : Option Addr) (n c : Nat) (l : List Nat) (hn : n ≤ 1000) (w : World) (hb : Byt w A n c l) :
    Calls Tryd.prog 80 #[.slice A n c, .func (.func 69) #[] #[]] w (IxP l w) := by
  obtain ⟨hl, hx, hcap, hcm, hc⟩ := hb
  subst hl
  have HC := Lib.hid hc
  have HX := Lib.hid hx
  have hn9 : l.length ≤ 1000 := hn
  clear hc hx
  go_enter Tryd.func80, Tryd.ntmps80
  go_wp2
  go_loop [8] (fun v8 => ∃ k : Nat, k ≤ l.length ∧ v8 = .int .i64 k ∧ Hid ((l.take k).all isT = true)) (fun v8 => l.length - (intOf v8).toNat)
  case atStart => exact ⟨0, by omega, rfl, Lib.hid rfl⟩
  case round =>
    obtain ⟨k, hk, rfl, HA⟩ := hrel
    by_cases hlt : k < l.length
    · obtain ⟨b, off, rfl, hbl, hcell⟩ := HC.out (by omega)
      have h0 := hcell k hlt
      have hy : l.getD k 0 < 256 := by
        rw [List.getD_eq_getElem?_getD, List.getElem?_eq_getElem hlt]; exact HX.out _ (List.getElem_mem hlt)
      have HT := Lib.hid (fun h => all_take hlt HA.out h)
      have HN := Lib.hid (fun h => all_not (l := l) (k := k) hlt h)
      clear hcell
      generalize l.getD k 0 = y at h0 HT HN hy
      have HU := Lib.hid (unT_ok y hy)
      cases hty : isT y with
      | true =>
        rw [hty] at HU
        have HT2 := Lib.hid (HT.out hty)
        clear HT HN hty
        go_wp2_with (go_at_call 69; (with_reducible refine (HU.out _).mono ?_); rintro e w1 ⟨rfl, rfl⟩)
        go_round
        case rel => exact ⟨k + 1, by omega, by go_num, HT2⟩
        case measure => simp [intOf]; omega
      | false =>
        rw [hty] at HU
        have HN2 := Lib.hid (HN.out hty)
        clear HT HN hty
        go_wp2_with (go_at_call 69; (with_reducible refine (HU.out _).mono ?_); rintro e w1 ⟨rfl, rfl⟩)
        go_ret
        exact ⟨(k : Int), rfl, by rw [HN2.out]; simp, rfl⟩
    · obtain rfl : k = l.length := by omega
      have HE : Hid (l.all isT = true) := Lib.hid (by have h := HA.out; rwa [List.take_of_length_le (Nat.le_refl _)] at h)
      go_wp2
      go_ret
      exact ⟨-1, rfl, by rw [HE.out]; rfl, rfl⟩
set_option maxRecDepth 100000 in
theorem ContainsFunc_ok (A : Option Addr) (n c : Nat) (l : List Nat) (hn : n ≤ 1000) (w : World) (hb : Byt w A n c l) :
    Calls Tryd.prog 68 #[.slice A n c, .func (.func 69) #[] #[]] w fun e w' => e = .returned (.bool (!l.all isT)) ∧ w = w' := by
  have HI := Lib.hid (IndexFunc_ok A n c l hn w hb)
  clear hb
  go_enter Tryd.func68, Tryd.ntmps68
  go_wp2_with (go_at_call 80; (with_reducible refine HI.out.mono ?_); (rintro e w1 ⟨i, rfl, hi, rfl⟩); have HQ := Lib.hid hi; clear hi)
  go_ret
  exact ⟨by rw [← HQ.out]; simp, rfl⟩
set_option maxRecDepth 100000 in
theorem right_ok (A : Option Addr) (n c : Nat) (l : List Nat) (hn : n ≤ 1000) (w : World) (hb : Byt w A n c l) :
    Calls Tryd.prog 47 #[.slice A n c] w fun e w' => e = .returned (.bool (okL l)) ∧ w = w' := by
  have HI := Lib.hid (ContainsFunc_ok A n c l hn w hb)
  have hl := hb.1
  subst hl
  clear hb
  unfold okL
  by_cases h20 : l.length ≤ 20
  · have e : decide (l.length ≤ 20) = true := by simp [h20]
    rw [e]
    clear e
    have h20' : (l.length : Int) ≤ 20 := by omega
    clear h20
    generalize l.all isT = q at HI
    go_enter Tryd.func47, Tryd.ntmps47
    go_wp2_with (go_at_call 68; (with_reducible refine HI.out.mono ?_); rintro e w1 ⟨rfl, rfl⟩)
    go_ret
    exact ⟨by simp, rfl⟩
  · have e : decide (l.length ≤ 20) = false := by simp; omega
    rw [e, Bool.and_false]
    clear e
    have h20' : ¬ (l.length : Int) ≤ 20 := by omega
    clear h20
    go_enter Tryd.func47, Tryd.ntmps47
    go_wp2
    go_ret
    exact ⟨rfl, rfl⟩
set_option maxRecDepth 100000 in
theorem SRight_ok (A B : Option Addr) (n m c d : Nat) (l r : List Nat) (hn : n ≤ 1000) (hm : m ≤ 1000) (w : World) (ha : Byt w A n c l) (hb : Byt w B m d r) :
    Calls Tryd.prog 18 #[.agg #[.slice A n c, .slice B m d]] w fun e w' => e = .returned (.bool (okL l && okL r)) ∧ Below w.heap.size w w' := by
  have hbl : Below w.heap.size w (w.alloc (.cells #[.slice A n c, .slice B m d] 27)) := (Below.refl _ _).alloc (Nat.le_refl _) _
  have H1 := Lib.hid (right_ok A n c l hn _ (ha.below hbl))
  have H2 := Lib.hid (right_ok B m d r hm _ (hb.below hbl))
  have HB := Lib.hid hbl
  clear ha hb hbl
  generalize okL l = q at H1
  generalize okL r = q2 at H2
  cases q
  all_goals
    go_enter Tryd.func18, Tryd.ntmps18
    go_wp2_with (go_at_call 47; first | ((with_reducible refine H1.out.mono ?_); rintro e w1 ⟨rfl, rfl⟩) | ((with_reducible refine H2.out.mono ?_); rintro e w1 ⟨rfl, rfl⟩))
    go_ret
    exact ⟨by simp, HB.out⟩
set_option maxHeartbeats 4000000 in
set_option maxRecDepth 100000 in
/-- the law's right -/
theorem lawRight_ok (A : Option Addr) (n c : Nat) (l : List Nat) (hn : n ≤ 1000) (w : World) (hb : Byt w A n c l) :
    Calls Tryd.prog 15 #[.slice A n c] w fun e w' => e = .returned (.bool (okL l)) ∧ w = w' := by
  obtain ⟨hl, hx, hcap, hcm, hc⟩ := hb
  subst hl
  have HC := Lib.hid hc
  have hn9 : l.length ≤ 1000 := hn
  clear hc hx
  have HK : Hid (okL l = (l.all isT && decide (l.length ≤ 20))) := Lib.hid rfl
  generalize okL l = q at HK
  go_enter Tryd.func15, Tryd.ntmps15
  go_wp2
  go_loop [3] (fun v3 => ∃ k : Nat, k ≤ l.length ∧ v3 = .int .i64 k ∧ Hid ((l.take k).all isT = true)) (fun v3 => l.length - (intOf v3).toNat)
  case atStart => exact ⟨0, by omega, rfl, Lib.hid rfl⟩
  case round =>
    obtain ⟨k, hk, rfl, HA⟩ := hrel
    by_cases hlt : k < l.length
    · obtain ⟨b, off, rfl, hbl, hcell⟩ := HC.out (by omega)
      have h0 := hcell k hlt
      have HT := Lib.hid (fun h => all_take hlt HA.out h)
      have HN := Lib.hid (fun h => all_not (l := l) (k := k) hlt h)
      clear hcell
      generalize l.getD k 0 = y at h0 HT HN
      by_cases h1 : y = 126
      · subst h1
        have HT2 := Lib.hid (HT.out rfl)
        clear HT HN
        go_wp2
        go_round
        case rel => exact ⟨k + 1, by omega, by go_num, HT2⟩
        case measure => simp [intOf]; omega
      · by_cases h2 : y = 127
        · subst h2
          have HT2 := Lib.hid (HT.out rfl)
          clear HT HN h1
          go_wp2
          go_round
          case rel => exact ⟨k + 1, by omega, by go_num, HT2⟩
          case measure => simp [intOf]; omega
        · have HN2 := Lib.hid (HN.out (by simp [isT, h1, h2]))
          have g1 : ((y : Int) != 126) = true := by simp; omega
          have g2 : ((y : Int) != 127) = true := by simp; omega
          clear HT HN h1 h2
          go_wp2
          go_ret
          exact ⟨by rw [HK.out, HN2.out]; rfl, rfl⟩
    · obtain rfl : k = l.length := by omega
      have HE : Hid (l.all isT = true) := Lib.hid (by have h := HA.out; rwa [List.take_of_length_le (Nat.le_refl _)] at h)
      go_wp2
      go_ret
      exact ⟨by
        rw [HK.out, HE.out, Bool.true_and]
        by_cases h20 : (l.length : Int) ≤ 20
        · have h21 : l.length ≤ 20 := by omega
          simp only [h20, h21, decide_true]; rfl
        · have h21 : ¬ l.length ≤ 20 := by omega
          (simp only [h20, h21, decide_false]; rfl), rfl⟩
end Go.Proofs.YtalpkdnnclghaaaDoor
