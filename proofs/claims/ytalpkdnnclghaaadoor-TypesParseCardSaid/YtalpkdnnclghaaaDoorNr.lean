/-
  The document's Sig.
-/
import Derived.Test.YtalpkdnnclghaaaDoorNq
namespace Go.Proofs.YtalpkdnnclghaaaDoor
open Go.RowKit Go.ChangeShapes Go.WideShapes Go.ChangeAt
set_option linter.unusedVariables false
set_option linter.unusedSimpArgs false
theorem rT_suf {s : List UInt8} {M : List Nat} {q : List UInt8} (h : rT s = some (M, q)) : q.length + 2 ≤ s.length ∧ q = s.drop (s.length - q.length) ∧ M.length ≤ s.length := by
  obtain ⟨_, e⟩ := rT_some h
  have hj := jn_len M
  have hl : s.length = q.length + (jn M).length + 2 := by rw [e]; simp; omega
  refine ⟨by omega, ?_, by omega⟩
  have e2 : s = (40 :: (jn M ++ [41])) ++ q := by rw [e]; simp
  have e3 : s.length - q.length = (40 :: (jn M ++ [41])).length := by simp; omega
  rw [e3]
  conv => rhs; rw [e2]
  rw [List.drop_left]
def SiP (o : Option (List Nat × List Nat)) (w : World) (e : Ending) (w' : World) : Prop :=
  match o with
  | none => e = .returned (.tuple #[.slice none 0 0, .slice none 0 0, .bool false]) ∧ Below w.heap.size w w'
  | some (a, b) => ∃ v1 v2, e = .returned (.tuple #[v1, v2, .bool true]) ∧ w'.ownsRow w.heap.size 5 1 v1 a.length (a.map U8) ∧ w'.ownsRow w.heap.size 5 1 v2 b.length (b.map U8) ∧ Below w.heap.size w w'
set_option maxHeartbeats 4000000 in
set_option maxRecDepth 100000 in
/-- nothing at first -/
theorem Sig_no1 (S : ByteArray) (w : World) (h : Calls Tryd.prog 49 #[.string S, .int .i64 0] w (TyP none 0 w)) :
    Calls Tryd.prog 21 #[.string S] w (SiP none w) := by
  have H := Lib.hid h
  clear h
  go_enter Tryd.func21, Tryd.ntmps21
  go_wp2_with (go_at_call 49; (with_reducible refine H.out.mono ?_); (rintro e w1 ⟨rfl, hb⟩); have HB := Lib.hid hb; clear hb)
  refine bodyPost_ret (v := .tuple #[.slice none 0 0, .slice none 0 0, .bool false]) (by simp [results, Tryd.results21, go_sem]) rfl ?_
  exact ⟨rfl, HB.out⟩
set_option maxHeartbeats 4000000 in
set_option maxRecDepth 100000 in
/-- a list, but no "->" behind it -/
theorem Sig_no2 (S : ByteArray) (hS : S.size ≤ 300) (p : Nat) (w : World) (h : Calls Tryd.prog 49 #[.string S, .int .i64 0] w fun e w' => (∃ v, e = .returned (.tuple #[v, .int .i64 p])) ∧ Below w.heap.size w w')
    (hp : p ≤ S.size) (hx : S.size - p < 2 ∨ (p + 2 ≤ S.size ∧ ((S.extract p (p + 2)).toList == [45, 62]) = false)) :
    Calls Tryd.prog 21 #[.string S] w (SiP none w) := by
  have H := Lib.hid h
  clear h
  rcases hx with hx | ⟨hx, hy⟩
  · have e1 : (S.size : Int) - (p : Int) < 2 := by omega
    clear hx
    go_enter Tryd.func21, Tryd.ntmps21
    go_wp2_with (go_at_call 49; (with_reducible refine H.out.mono ?_); (rintro e w1 ⟨⟨v, rfl⟩, hb⟩); have HB := Lib.hid hb; clear hb)
    refine bodyPost_ret (v := .tuple #[.slice none 0 0, .slice none 0 0, .bool false]) (by simp [results, Tryd.results21, go_sem]) rfl ?_
    exact ⟨rfl, HB.out⟩
  · have e1 : ¬ (S.size : Int) - (p : Int) < 2 := by omega
    have hy2 : ((S.extract p (p + 2)).toList != [45, 62]) = true := by
      show (!((S.extract p (p + 2)).toList == [45, 62])) = true
      rw [hy]; rfl
    go_enter Tryd.func21, Tryd.ntmps21
    go_wp2_with (go_at_call 49; (with_reducible refine H.out.mono ?_); (rintro e w1 ⟨⟨v, rfl⟩, hb⟩); have HB := Lib.hid hb; clear hb)
    refine bodyPost_ret (v := .tuple #[.slice none 0 0, .slice none 0 0, .bool false]) (by simp [results, Tryd.results21, go_sem]) rfl ?_
    exact ⟨rfl, HB.out⟩
set_option maxHeartbeats 4000000 in
set_option maxRecDepth 100000 in
/-- both lists, or not -/
theorem Sig_two (S : ByteArray) (hS : S.size ≤ 300) (p : Nat) (E : Int) (a b : List Nat) (ok : Bool) (w : World)
    (h : Calls Tryd.prog 49 #[.string S, .int .i64 0] w fun e w' => ∃ v, e = .returned (.tuple #[v, .int .i64 p]) ∧ w'.ownsRow w.heap.size 5 1 v a.length (a.map U8) ∧ Below w.heap.size w w')
    (hp : p + 2 ≤ S.size) (hy : ((S.extract p (p + 2)).toList == [45, 62]) = true)
    (h2 : ∀ W, Calls Tryd.prog 49 #[.string S, .int .i64 ((p : Int) + 2)] W fun e w' => ∃ v, e = .returned (.tuple #[v, .int .i64 E]) ∧ w'.ownsRow W.heap.size 5 1 v b.length (b.map U8) ∧ Below W.heap.size W w')
    (ha : a.length ≤ 300) (hb : b.length ≤ 300) (hok : ok = (decide (E = (S.size : Int)) && decide (a.length ≤ 20) && decide (b.length ≤ 20))) :
    Calls Tryd.prog 21 #[.string S] w (SiP (if ok then some (a, b) else none) w) := by
  have H := Lib.hid h
  have H2 := Lib.hid h2
  have e1 : ¬ (S.size : Int) - (p : Int) < 2 := by omega
  clear h h2
  by_cases k1 : E = (S.size : Int)
  · have g1 : (E != (S.size : Int)) = false := by simp [k1]
    by_cases k2 : a.length ≤ 20
    · have g2 : ¬ (20 : Int) < (a.length : Int) := by omega
      by_cases k3 : b.length ≤ 20
      · have g3 : ¬ (20 : Int) < (b.length : Int) := by omega
        have hk : ok = true := by rw [hok]; simp [k1, k2, k3]
        subst hk
        rw [if_pos rfl]
        have HK1 := Lib.hid k1
        clear hok k1 k2 k3
        go_enter Tryd.func21, Tryd.ntmps21
        go_wp2_with (go_at_call 49; first
          | ((with_reducible refine H.out.mono ?_); (rintro e w1 ⟨v, rfl, o, hb⟩); (obtain ⟨A, c, rfl⟩ := own_slice o)
             have HB := Lib.hid hb
             have HO := Lib.hid o
             clear hb o)
          | ((with_reducible refine (H2.out _).mono ?_); (rintro e w2 ⟨v, rfl, o, hb⟩); (obtain ⟨A2, c2, rfl⟩ := own_slice o)
             have HB2 := Lib.hid (HB.out.trans (hb.mono HB.out.size))
             have HO2 := Lib.hid (own_up HO.out hb (Nat.le_refl _))
             have HOb := Lib.hid (own_less o HB.out.size)
             clear hb o HO))
        refine bodyPost_ret (v := .tuple #[.slice A a.length c, .slice A2 b.length c2, .bool true]) (by simp [results, Tryd.results21, go_sem]) rfl ?_
        exact ⟨_, _, rfl, HO2.out, HOb.out, HB2.out⟩
      · have g3 : (20 : Int) < (b.length : Int) := by omega
        have hk : ok = false := by rw [hok]; simp [k3]
        subst hk
        rw [if_neg (by decide)]
        clear hok k1 k2 k3
        go_enter Tryd.func21, Tryd.ntmps21
        go_wp2_with (go_at_call 49; first
          | ((with_reducible refine H.out.mono ?_); (rintro e w1 ⟨v, rfl, o, hb⟩); (obtain ⟨A, c, rfl⟩ := own_slice o)
             have HB := Lib.hid hb
             have HO := Lib.hid o
             clear hb o)
          | ((with_reducible refine (H2.out _).mono ?_); (rintro e w2 ⟨v, rfl, o, hb⟩); (obtain ⟨A2, c2, rfl⟩ := own_slice o)
             have HB2 := Lib.hid (HB.out.trans (hb.mono HB.out.size))
             have HO2 := Lib.hid (own_up HO.out hb (Nat.le_refl _))
             have HOb := Lib.hid (own_less o HB.out.size)
             clear hb o HO))
        refine bodyPost_ret (v := .tuple #[.slice none 0 0, .slice none 0 0, .bool false]) (by simp [results, Tryd.results21, go_sem]) rfl ?_
        exact ⟨rfl, HB2.out⟩
    · have g2 : (20 : Int) < (a.length : Int) := by omega
      have hk : ok = false := by rw [hok]; simp [k2]
      subst hk
      rw [if_neg (by decide)]
      clear hok k1 k2
      go_enter Tryd.func21, Tryd.ntmps21
      go_wp2_with (go_at_call 49; first
        | ((with_reducible refine H.out.mono ?_); (rintro e w1 ⟨v, rfl, o, hb⟩); (obtain ⟨A, c, rfl⟩ := own_slice o)
           have HB := Lib.hid hb
           have HO := Lib.hid o
           clear hb o)
        | ((with_reducible refine (H2.out _).mono ?_); (rintro e w2 ⟨v, rfl, o, hb⟩); (obtain ⟨A2, c2, rfl⟩ := own_slice o)
           have HB2 := Lib.hid (HB.out.trans (hb.mono HB.out.size))
           have HO2 := Lib.hid (own_up HO.out hb (Nat.le_refl _))
           have HOb := Lib.hid (own_less o HB.out.size)
           clear hb o HO))
      refine bodyPost_ret (v := .tuple #[.slice none 0 0, .slice none 0 0, .bool false]) (by simp [results, Tryd.results21, go_sem]) rfl ?_
      exact ⟨rfl, HB2.out⟩
  · have g1 : (E != (S.size : Int)) = true := by simpa using k1
    have hk : ok = false := by rw [hok]; simp [k1]
    subst hk
    rw [if_neg (by decide)]
    clear hok k1
    go_enter Tryd.func21, Tryd.ntmps21
    go_wp2_with (go_at_call 49; first
      | ((with_reducible refine H.out.mono ?_); (rintro e w1 ⟨v, rfl, o, hb⟩); (obtain ⟨A, c, rfl⟩ := own_slice o)
         have HB := Lib.hid hb
         have HO := Lib.hid o
         clear hb o)
      | ((with_reducible refine (H2.out _).mono ?_); (rintro e w2 ⟨v, rfl, o, hb⟩); (obtain ⟨A2, c2, rfl⟩ := own_slice o)
         have HB2 := Lib.hid (HB.out.trans (hb.mono HB.out.size))
         have HO2 := Lib.hid (own_up HO.out hb (Nat.le_refl _))
         have HOb := Lib.hid (own_less o HB.out.size)
         clear hb o HO))
    refine bodyPost_ret (v := .tuple #[.slice none 0 0, .slice none 0 0, .bool false]) (by simp [results, Tryd.results21, go_sem]) rfl ?_
    exact ⟨rfl, HB2.out⟩
theorem RSig_any (s : List UInt8) (hs : s.length ≤ 300) (w : World) : Calls Tryd.prog 21 #[.string (bs s)] w (SiP (sgL s) w) := by
  rw [← rS_eq]
  have T0 : Calls Tryd.prog 49 #[.string (bs s), .int .i64 0] w (TyP (rT s) s.length w) := types_any s hs 0 w
  unfold rS
  cases h1 : rT s with
  | none =>
    rw [h1] at T0
    exact Sig_no1 (bs s) w T0
  | some x =>
    obtain ⟨a, r1⟩ := x
    obtain ⟨g1, g2, g3⟩ := rT_suf h1
    rw [h1] at T0
    obtain ⟨p, hp⟩ : ∃ p, p = s.length - r1.length := ⟨_, rfl⟩
    rw [← hp] at g2
    have hx : ((bs s).extract p (p + 2)).toList = r1.take 2 := by rw [ext_bs, ← g2, Nat.add_sub_cancel_left]
    have hsz := bs_size s
    have T0' : Calls Tryd.prog 49 #[.string (bs s), .int .i64 0] w fun e w' => ∃ v, e = .returned (.tuple #[v, .int .i64 p]) ∧ w'.ownsRow w.heap.size 5 1 v a.length (a.map U8) ∧ Below w.heap.size w w' := by
      refine T0.mono ?_
      rintro e w' ⟨v, e1, _, o, b⟩
      exact ⟨v, by rw [hp]; exact e1, o, b⟩
    simp only []
    by_cases ha : (r1.take 2 == [45, 62]) = true
    · rw [if_pos ha]
      have hr : 2 ≤ r1.length := by
        have h := congrArg List.length (eq_of_beq ha)
        rw [List.length_take] at h
        simp at h
        omega
      have hd : s.drop (p + 2) = r1.drop 2 := by rw [← List.drop_drop, ← g2]
      have T2 : ∀ W, Calls Tryd.prog 49 #[.string (bs s), .int .i64 ((p : Int) + 2)] W (TyP (rT (r1.drop 2)) s.length W) := fun W => by
        have h := types_any s hs (p + 2) W
        rw [hd] at h
        exact h
      cases h2 : rT (r1.drop 2) with
      | none =>
        simp only [h2] at T2
        have h := Sig_two (bs s) (by omega) p (-1) a [] false w T0' (by omega) (by rw [hx]; exact ha) (fun W => (T2 W).mono (by
          rintro e w' ⟨e1, b⟩
          exact ⟨_, e1, World.ownsRow_nil _ _ _ _, b⟩)) (by omega) (by simp) (by
            have : decide ((-1 : Int) = ((bs s).size : Int)) = false := by simp
            rw [this]; rfl)
        exact h
      | some y =>
        obtain ⟨b, r2⟩ := y
        obtain ⟨k1, k2, k3⟩ := rT_suf h2
        simp only [h2] at T2
        rw [List.length_drop] at k1 k3
        have h := Sig_two (bs s) (by omega) p ((s.length - r2.length : Nat) : Int) a b (decide (r2 = [] ∧ a.length ≤ 20 ∧ b.length ≤ 20)) w T0' (by omega) (by rw [hx]; exact ha) (fun W => (T2 W).mono (by
          rintro e w' ⟨v, e1, _, o, b⟩
          exact ⟨v, e1, o, b⟩)) (by omega) (by omega) (by
            have : decide (((s.length - r2.length : Nat) : Int) = ((bs s).size : Int)) = decide (r2 = []) := by
              rw [decide_eq_decide, hsz, ← List.length_eq_zero_iff]
              omega
            rw [this, Bool.eq_iff_iff]; simp [and_assoc])
        by_cases hc : r2 = [] ∧ a.length ≤ 20 ∧ b.length ≤ 20
        · simp only [hc, and_self, decide_true, if_true] at h ⊢
          exact h
        · simp only [hc, decide_false, if_false, Bool.false_eq_true] at h ⊢
          exact h
    · rw [if_neg ha]
      refine Sig_no2 (bs s) (by omega) p w (T0'.mono ?_) (by omega) ?_
      · rintro e w' ⟨v, e1, _, b⟩
        exact ⟨⟨v, e1⟩, b⟩
      · by_cases hl : r1.length < 2
        · exact .inl (by omega)
        · exact .inr ⟨by omega, by rw [hx]; exact Bool.eq_false_iff.2 ha⟩
end Go.Proofs.YtalpkdnnclghaaaDoor
