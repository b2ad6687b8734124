/-
  What may be: types.right, Sig.Right.
-/
import Derived.Test.YtackompihengfaaGb
namespace Go.Proofs.Ytackompihengfaa
open Go.RowKit Go.ChangeShapes Go.WideShapes Go.ChangeAt
set_option linter.unusedVariables false
set_option linter.unusedSimpArgs false
def btT (t : Nat) : Nat := if t = 127 then 32 else if t = 126 then 64 else 0
theorem kinds3 (t : Nat) (ht : t < 256) (P : Nat → Prop) (h1 : P 127) (h2 : P 126) (h3 : ∀ t, t < 256 → t ≠ 127 → t ≠ 126 → P t) : P t := by
  by_cases h : t = 127
  · exact h ▸ h1
  · by_cases h' : t = 126
    · exact h' ▸ h2
    · exact h3 t ht h h'
set_option maxRecDepth 100000 in
theorem Bits_ok (t : Nat) (ht : t < 256) (w : World) : Calls Try.prog 89 #[.int .u8 t] w fun e w' => e = .returned (.int .i64 (btT t)) ∧ w = w' := by
  revert w
  refine kinds3 t ht (fun t => ∀ w, Calls Try.prog 89 #[.int .u8 t] w fun e w' => e = .returned (.int .i64 (btT t)) ∧ w = w') ?_ ?_ ?_
  · intro w; try show Calls Try.prog _ _ w _
    go_enter Try.func89, Try.ntmps89
    go_wp2
    go_ret
    exact ⟨rfl, rfl⟩
  · intro w; try show Calls Try.prog _ _ w _
    go_enter Try.func89, Try.ntmps89
    go_wp2
    go_ret
    exact ⟨rfl, rfl⟩
  · intro t ht h1 h2 w
    have e : btT t = 0 := by unfold btT; rw [if_neg h1, if_neg h2]
    rw [e]
    have h1' : ((t : Int) == 127) = false := by rw [beq_eq_false_iff_ne]; omega
    have h2' : ((t : Int) == 126) = false := by rw [beq_eq_false_iff_ne]; omega
    clear e
    go_enter Try.func89, Try.ntmps89
    go_wp2
    go_ret
    exact ⟨rfl, rfl⟩
set_option maxRecDepth 100000 in
/-- the closure of types.right -/
theorem unT_gen (t b : Nat) (u : Bool) (hu : ((b : Int) == 0) = u) (w : World) (hB : ∀ W, Calls Try.prog 89 #[.int .u8 t] W fun e w' => e = .returned (.int .i64 b) ∧ W = w') :
    Calls Try.prog 88 #[.int .u8 t] w fun e w' => e = .returned (.bool u) ∧ w = w' := by
  have HB := Lib.hid hB
  clear hB
  go_enter Try.func88, Try.ntmps88
  go_wp2_with (go_at_call 89; (with_reducible refine (HB.out _).mono ?_); rintro e w1 ⟨rfl, rfl⟩)
  go_ret
  exact ⟨rfl, rfl⟩
theorem unT_ok (t : Nat) (ht : t < 256) (w : World) : Calls Try.prog 88 #[.int .u8 t] w fun e w' => e = .returned (.bool (!tyC t)) ∧ w = w' := by
  refine unT_gen t (btT t) _ ?_ w (Bits_ok t ht)
  unfold btT tyC
  by_cases h : t = 127
  · subst h; rfl
  · by_cases h' : t = 126
    · subst h'; rfl
    · simp [h, h']
theorem all_take {l : List Nat} {k : Nat} (hk : k < l.length) (h : (l.take k).all tyC = true) (ht : tyC (l.getD k 0) = true) : (l.take (k + 1)).all tyC = true := by
  rw [take_more l k hk, List.all_append, h]; simp only [List.all_cons, List.all_nil, ht, Bool.and_true]
theorem all_not {l : List Nat} {k : Nat} (hk : k < l.length) (ht : tyC (l.getD k 0) = false) : l.all tyC = false := by
  rw [List.all_eq_false]
  refine ⟨l[k], List.getElem_mem hk, ?_⟩
  rw [List.getD_eq_getElem?_getD, List.getElem?_eq_getElem hk] at ht
  simpa using ht
def IxP (l : List Nat) (w : World) (e : Ending) (w' : World) : Prop := ∃ i : Int, e = .returned (.int .i64 i) ∧ decide (0 ≤ i) = !(l.all tyC) ∧ w = w'
set_option maxHeartbeats 4000000 in
set_option maxRecDepth 100000 in
theorem IndexFunc_ok (A : Option Addr) (n c : Nat) (l : List Nat) (hn : n ≤ 1000) (w : World) (hb : Byt w A n c l) :
    Calls Try.prog 90 #[.slice A n c, .func (.func 88) #[] #[]] w (IxP l w) := by
  obtain ⟨hl, hx, hcap, hcm, hc⟩ := hb
  subst hl
  have HC := Lib.hid hc
  have HX := Lib.hid hx
  have hn9 : l.length ≤ 1000 := hn
  clear hc hx
  go_enter Try.func90, Try.ntmps90
  go_wp2
  go_loop [8] (fun v8 => ∃ k : Nat, k ≤ l.length ∧ v8 = .int .i64 k ∧ Hid ((l.take k).all tyC = true)) (fun v8 => l.length - (intOf v8).toNat)
  case atStart => exact ⟨0, by omega, rfl, Lib.hid rfl⟩
  case round =>
    obtain ⟨k, hk, rfl, HA⟩ := hrel
    by_cases hlt : k < l.length
    · obtain ⟨b, off, rfl, hbl, hcell⟩ := HC.out (by omega)
      have h0 := hcell k hlt
      have hy : l.getD k 0 < 256 := by
        rw [List.getD_eq_getElem?_getD, List.getElem?_eq_getElem hlt]; exact HX.out _ (List.getElem_mem hlt)
      have HT := Lib.hid (fun h => all_take hlt HA.out h)
      have HN := Lib.hid (fun h => all_not (l := l) (k := k) hlt h)
      clear hcell
      generalize l.getD k 0 = y at h0 HT HN hy
      have HU := Lib.hid (unT_ok y hy)
      cases hty : tyC y with
      | true =>
        rw [hty] at HU
        have HT2 := Lib.hid (HT.out hty)
        clear HT HN hty
        go_wp2_with (go_at_call 88; (with_reducible refine (HU.out _).mono ?_); rintro e w1 ⟨rfl, rfl⟩)
        go_round
        case rel => exact ⟨k + 1, by omega, by go_num, HT2⟩
        case measure => simp [intOf]; omega
      | false =>
        rw [hty] at HU
        have HN2 := Lib.hid (HN.out hty)
        clear HT HN hty
        go_wp2_with (go_at_call 88; (with_reducible refine (HU.out _).mono ?_); rintro e w1 ⟨rfl, rfl⟩)
        go_ret
        exact ⟨(k : Int), rfl, by rw [HN2.out]; simp, rfl⟩
    · obtain rfl : k = l.length := by omega
      have HE : Hid (l.all tyC = true) := Lib.hid (by have h := HA.out; rwa [List.take_of_length_le (Nat.le_refl _)] at h)
      go_wp2
      go_ret
      exact ⟨-1, rfl, by rw [HE.out]; rfl, rfl⟩
set_option maxRecDepth 100000 in
theorem ContainsFunc_ok (A : Option Addr) (n c : Nat) (l : List Nat) (hn : n ≤ 1000) (w : World) (hb : Byt w A n c l) :
    Calls Try.prog 87 #[.slice A n c, .func (.func 88) #[] #[]] w fun e w' => e = .returned (.bool (!l.all tyC)) ∧ w = w' := by
  have HI := Lib.hid (IndexFunc_ok A n c l hn w hb)
  clear hb
  go_enter Try.func87, Try.ntmps87
  go_wp2_with (go_at_call 90; (with_reducible refine HI.out.mono ?_); (rintro e w1 ⟨i, rfl, hi, rfl⟩); have HQ := Lib.hid hi; clear hi)
  go_ret
  exact ⟨by rw [← HQ.out]; simp, rfl⟩
set_option maxRecDepth 100000 in
theorem right_ok (A : Option Addr) (n c : Nat) (l : List Nat) (hn : n ≤ 1000) (w : World) (hb : Byt w A n c l) :
    Calls Try.prog 85 #[.slice A n c] w fun e w' => e = .returned (.bool (tyB l)) ∧ w = w' := by
  have HI := Lib.hid (ContainsFunc_ok A n c l hn w hb)
  have hl := hb.1
  subst hl
  clear hb
  unfold tyB
  by_cases h20 : l.length ≤ 20
  · have e : decide (l.length ≤ 20) = true := by simp [h20]
    rw [e]
    clear e
    have h20' : (l.length : Int) ≤ 20 := by omega
    clear h20
    generalize l.all tyC = q at HI
    go_enter Try.func85, Try.ntmps85
    go_wp2_with (go_at_call 87; (with_reducible refine HI.out.mono ?_); rintro e w1 ⟨rfl, rfl⟩)
    go_ret
    exact ⟨by simp, rfl⟩
  · have e : decide (l.length ≤ 20) = false := by simp; omega
    rw [e, Bool.and_false]
    clear e
    have h20' : ¬ (l.length : Int) ≤ 20 := by omega
    clear h20
    go_enter Try.func85, Try.ntmps85
    go_wp2
    go_ret
    exact ⟨rfl, rfl⟩
set_option maxRecDepth 100000 in
theorem SRight_ok (A B : Option Addr) (n m c d : Nat) (l r : List Nat) (hn : n ≤ 1000) (hm : m ≤ 1000) (w : World) (ha : Byt w A n c l) (hb : Byt w B m d r) :
    Calls Try.prog 65 #[.agg #[.slice A n c, .slice B m d]] w fun e w' => e = .returned (.bool (tyB l && tyB r)) ∧ Below w.heap.size w w' := by
  have hbl : Below w.heap.size w (w.alloc (.cells #[.slice A n c, .slice B m d] 42)) := (Below.refl _ _).alloc (Nat.le_refl _) _
  have H1 := Lib.hid (right_ok A n c l hn _ (ha.below hbl))
  have H2 := Lib.hid (right_ok B m d r hm _ (hb.below hbl))
  have HB := Lib.hid hbl
  clear ha hb hbl
  generalize tyB l = q at H1
  generalize tyB r = q2 at H2
  cases q
  all_goals
    go_enter Try.func65, Try.ntmps65
    go_wp2_with (go_at_call 85; first | ((with_reducible refine H1.out.mono ?_); rintro e w1 ⟨rfl, rfl⟩) | ((with_reducible refine H2.out.mono ?_); rintro e w1 ⟨rfl, rfl⟩))
    go_ret
    exact ⟨by simp, HB.out⟩
end Go.Proofs.Ytackompihengfaa
/-
  each: the first error of a list's things.
-/
namespace Go.Proofs.Ytackompihengfaa
open Go.RowKit Go.PlainAid
set_option linter.unusedVariables false
set_option linter.unusedSimpArgs false
/-- the first error from a place on -/
def firstE (E : Nat → Int) : Nat → Nat → Int
  | 0, _ => 0
  | m + 1, k => if E k = 0 then firstE E m (k + 1) else E k
theorem firstE_zero {E : Nat → Int} : ∀ (m k : Nat), (∀ i, k ≤ i → i < k + m → E i = 0) → firstE E m k = 0
  | 0, _, _ => rfl
  | m + 1, k, h => by
    unfold firstE
    rw [if_pos (h k (Nat.le_refl _) (by omega))]
    exact firstE_zero m (k + 1) (fun i h1 h2 => h i (by omega) (by omega))
theorem firstE_all {E : Nat → Int} : ∀ (m k : Nat), firstE E m k = 0 → ∀ i, k ≤ i → i < k + m → E i = 0
  | 0, _, _, i, h1, h2 => by omega
  | m + 1, k, h, i, h1, h2 => by
    unfold firstE at h
    by_cases hk : E k = 0
    · rw [if_pos hk] at h
      rcases Nat.eq_or_lt_of_le h1 with e | e
      · exact e ▸ hk
      · exact firstE_all m (k + 1) h i e (by omega)
    · rw [if_neg hk] at h
      exact absurd h hk
set_option maxRecDepth 100000 in
theorem unless_any (b : Bool) (r : Int) (w : World) : Calls Try.prog 64 #[.bool b, .int .i64 r] w fun e w' => e = .returned (.int .i64 (if b then 0 else r)) ∧ w = w' := by
  cases b
  all_goals
    go_enter Try.func64, Try.ntmps64
    go_wp2
    go_ret
    exact ⟨rfl, rfl⟩
end Go.Proofs.Ytackompihengfaa
