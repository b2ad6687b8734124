/-
  conv's own readers, conv.Parse.
-/
import Derived.Test.YtggfaalodojjkaaGreatDoorVKe
namespace Go.Proofs.YtggfaalodojjkaaGreatDoor
open Go.RowKit Go.ChangeShapes Go.WideShapes Go.ChangeAt
set_option linter.unusedVariables false
set_option linter.unusedSimpArgs false
theorem wide_yes (t : Int) (w : World) (h : Wd.ok t) : Calls Tryz.prog 116 #[.int .i64 t] w fun e w' => e = .returned (.bool true) ∧ w = w' := by
  rcases h with rfl | rfl
  all_goals
    go_enter Tryz.func116, Tryz.ntmps116
    go_wp2
    go_ret
    exact ⟨rfl, rfl⟩
/-- what conv's readers tell: a word, and whether it is one -/
def RP (o : Option Nat) (w : World) (e : Ending) (w' : World) : Prop :=
  ∃ x : Int, e = .returned (.tuple #[.int .u64 x, .bool o.isSome]) ∧ (∀ n : Nat, o = some n → x = n) ∧ Below w.heap.size w w'
def wu (v : Int) : Nat := (IntKind.u64.wrap v).toNat
theorem wu_eq (v : Int) : IntKind.u64.wrap v = (wu v : Int) ∧ wu v < 18446744073709551616 := by
  unfold wu
  rw [IntKind.wrap_u64]
  omega
theorem sgn_wu32 (v : Int) (h0 : -2147483648 ≤ v) (h1 : v < 2147483648) : Wd.sgn 32 (Wd.cut 32 (wu v)) = v := by
  have hw := (wu_eq v).1
  rw [IntKind.wrap_u64] at hw
  simp only [Wd.sgn, Wd.cut, if_true]
  generalize wu v = a at hw
  split <;> omega
theorem sgn_wu64 (v : Int) (h0 : -9223372036854775808 ≤ v) (h1 : v < 9223372036854775808) : Wd.sgn 64 (Wd.cut 64 (wu v)) = v := by
  have hw := (wu_eq v).1
  rw [IntKind.wrap_u64] at hw
  simp only [Wd.sgn, Wd.cut, show ((64 : Int) = 32) = False from by simp, if_false]
  generalize wu v = a at hw
  split <;> omega
def rdH (M : Nat) (s : List UInt8) : Option Nat := match s with
  | 48 :: 120 :: t => rdB 16 M t
  | _ => none
def rdS (B : Nat) (s : List UInt8) : Option Nat := (rdI B s).map fun v => Wd.cut B (wu v)
theorem ext_drop (r : List UInt8) (i : Nat) : (bs r).extract i r.length = bs (r.drop i) := by
  apply ByteArray.ext
  simp [bs, ByteArray.data_extract]
  exact List.take_of_length_le (by simp)
/-- the first one that there is -/
def fst3 (a b c : Option Nat) : Option Nat := match a with
  | some x => some x
  | none => match b with
    | some y => some y
    | none => c
def pzf (B M : Nat) (s : List UInt8) : Option Nat := fst3 (rdB 10 M s) (rdS B s) (rdH M s)
def PaP (o : Option Nat) (w : World) (e : Ending) (w' : World) : Prop :=
  e = .returned (.tuple #[.int .u64 ((o.getD 0 : Nat) : Int), .int .i64 (if o.isSome = true then 0 else 4)]) ∧ Below w.heap.size w w'
theorem idx70 (W : World) : (∀ j : Fin 3, (Instr.index 181 (.agg #[.func (.func 117) #[] #[], .func (.func 118) #[] #[], .func (.func 119) #[] #[]]) (.int .i64 (j.val : Int))).run Tryz.prog W = .ok (.func (.func (117 + j.val)) #[] #[]) W) := by
  intro j
  rcases j with ⟨j, hj⟩
  rcases (by omega : j = 0 ∨ j = 1 ∨ j = 2) with rfl | rfl | rfl <;> kernel_rfl
set_option maxHeartbeats 4000000 in
set_option maxRecDepth 100000 in
theorem uns_32 (s : List UInt8) (hs : s.length ≤ 100) (w : World) (hL : Lw w) : Calls Tryz.prog 117 #[.int .i64 32, .string (bs s)] w (RP (rdB 10 4294967295 s) w) := by
  have P := Lib.hid (PU10_32 s hs w hL)
  obtain ⟨f1, f2, f3⟩ := o10_facts 32 (by decide) s
  have HL := Lib.hid hL
  obtain ⟨O, eO⟩ : ∃ O, O = rdB 10 4294967295 s := ⟨_, rfl⟩
  have f1 : ∀ u, o10 32 s = some u → (decide (Lib.decDigits u = s) = O.isSome) ∧ ∀ n, O = some n → u = n := by rw [eO]; exact f1
  have f2 : o10 32 s = none → O = none := by rw [eO]; exact f2
  rw [← eO]
  generalize o10 32 s = o1 at P f1 f2 f3
  have F1 := Lib.hid f1
  have F2 := Lib.hid f2
  have F3 := Lib.hid f3
  clear hL eO f1 f2 f3
  have hbq : ∀ l : List UInt8, ((bs l).toList == (bs s).toList) = decide (l = s) := fun l => by
    rw [bs_beq, Bool.eq_iff_iff]; simp
  have HBQ := Lib.hid hbq
  clear hbq
  go_enter Tryz.func117, Tryz.ntmps117
  go_wp2_with fail
  refine P.out.mono ?_
  rintro e w1 ⟨ho, hb⟩
  have HB := Lib.hid hb
  clear hb
  rcases ho with ⟨v, rfl, rfl⟩ | ⟨rfl, x, N, rfl⟩
  · have F := Lib.hid (FU10 v (F3.out v rfl) w1 (HL.out.below HB.out))
    obtain ⟨g1, g2⟩ := F1.out v rfl
    have hq := (HBQ.out (Lib.decDigits v)).trans g1
    have G2 := Lib.hid g2
    generalize bs (Lib.decDigits v) = X at F hq
    generalize hS : bs s = S at hq
    generalize hO : O.isSome = q at hq
    clear hS g1 g2 HBQ
    go_wp2_with (go_at_call 91; refine F.out.mono ?_; rintro e w2 ⟨rfl, hb⟩; have HB2 := Lib.hid (HB.out.trans (hb.mono HB.out.size)); clear hb)
    go_ret2
    exact ⟨v, by rw [hO]; rfl, fun n e => (by rw [G2.out n e]), HB2.out⟩
  · have hO := F2.out rfl
    subst hO
    go_wp2_with fail
    go_ret2
    exact ⟨x, rfl, fun n e => (by cases e), HB.out⟩
set_option maxHeartbeats 4000000 in
set_option maxRecDepth 100000 in
theorem sig_32 (s : List UInt8) (hs : s.length ≤ 100) (w : World) (hL : Lw w) : Calls Tryz.prog 118 #[.int .i64 32, .string (bs s)] w (RP (rdS 32 s) w) := by
  have P := Lib.hid (PI10_32 s hs w hL)
  obtain ⟨f1, f2⟩ := oI_facts 32 (by decide) s
  have HL := Lib.hid hL
  rw [show rdS 32 s = (rdI 32 s).map (fun v => Wd.cut 32 (wu v)) from rfl]
  obtain ⟨O, eO⟩ : ∃ O, O = rdI 32 s := ⟨_, rfl⟩
  rw [← eO] at f1 f2 ⊢
  obtain ⟨O2, eO2⟩ : ∃ O2, O2 = O.map (fun v => Wd.cut 32 (wu v)) := ⟨_, rfl⟩
  rw [← eO2]
  have EO2 := Lib.hid eO2
  generalize oI 32 s = o1 at P f1 f2
  have F1 := Lib.hid f1
  have F2 := Lib.hid f2
  clear hL eO eO2 f1 f2
  have hbq : ∀ l : List UInt8, ((bs l).toList == (bs s).toList) = decide (l = s) := fun l => by
    rw [bs_beq, Bool.eq_iff_iff]; simp
  have HBQ := Lib.hid hbq
  clear hbq
  go_enter Tryz.func118, Tryz.ntmps118
  go_wp2_with fail
  refine P.out.mono ?_
  rintro e w1 ⟨ho, hb⟩
  have HB := Lib.hid hb
  clear hb
  rcases ho with ⟨v, rfl, rfl⟩ | ⟨rfl, x, N, hx0, hx1, rfl⟩
  · obtain ⟨g1, g2, g3, g4⟩ := F1.out v rfl
    have hsg := sgn_wu32 v g3 g4
    obtain ⟨hw, hw2⟩ := wu_eq v
    have hc := Wd.cut_lt (n := 32) (by simp [Wd.ok]) hw2
    have hc2 : Wd.cut 32 (wu v) < 18446744073709551616 := Nat.lt_of_lt_of_le hc (Wd.md_le (by simp [Wd.ok]))
    have F := Print_ok 32 (Wd.cut 32 (wu v)) hc2 w1 (HL.out.below HB.out)
    rw [hsg] at F
    have C := Lib.hid (fun W : World => WCut_any 32 (wu v) W)
    have hq := (HBQ.out (Lib.itoa v)).trans g1
    have G2 := Lib.hid (show ∀ n : Nat, O2 = some n → ((Wd.cut 32 (wu v) : Nat) : Int) = n from fun n e => by
      rw [EO2.out] at e
      cases hO : O with
      | none => rw [hO] at e; cases e
      | some z =>
        rw [hO] at e
        injection e with e
        rw [← e, g2 z hO])
    have hO2 : O2.isSome = O.isSome := by rw [EO2.out]; cases O <;> rfl
    have FF := Lib.hid F
    rw [← hO2] at hq
    clear F g1 g2 g3 g4 hsg hc hc2 hO2
    generalize Wd.cut 32 (wu v) = c at FF C G2
    generalize bs (Lib.itoa v) = X at FF hq
    generalize hS : bs s = S at hq
    generalize hO : O2.isSome = q at hq
    clear hS HBQ F1 F2 EO2
    go_wp2_with (first
      | (go_at_call 130; refine (C.out _).mono ?_; rintro e w2 ⟨rfl, rfl⟩)
      | (go_at_call 64; refine FF.out.mono ?_; rintro e w2 ⟨rfl, hb⟩; have HB2 := Lib.hid (HB.out.trans (hb.mono HB.out.size)); clear hb))
    go_ret2
    exact ⟨c, by rw [hO]; rfl, G2.out, HB2.out⟩
  · have hO : O2 = none := by rw [EO2.out, F2.out rfl]; rfl
    subst hO
    obtain ⟨hw, hw2⟩ := wu_eq x
    have C := Lib.hid (fun W : World => WCut_any 32 (wu x) W)
    go_wp2_with (go_at_call 130; refine (C.out _).mono ?_; rintro e w2 ⟨rfl, rfl⟩)
    go_ret2
    exact ⟨_, rfl, fun n e => (by cases e), HB.out⟩
set_option maxHeartbeats 4000000 in
set_option maxRecDepth 100000 in
theorem hex_32 (s : List UInt8) (hs : s.length ≤ 100) (w : World) (hL : Lw w) : Calls Tryz.prog 119 #[.int .i64 32, .string (bs s)] w (RP (rdH 4294967295 s) w) := by
  have hsz := bs_size s
  by_cases h2 : s.length < 2
  · have hO : rdH 4294967295 s = none := by
      unfold rdH
      split
      · simp at h2; omega
      · rfl
    rw [hO]
    generalize bs s = S at hsz
    have h2' : (S.size : Int) < 2 := by omega
    clear hsz
    go_enter Tryz.func119, Tryz.ntmps119
    go_wp2
    go_ret2
    exact ⟨0, rfl, fun n e => (by cases e), Below.refl _ _⟩
  · have hex := ext_drop s 2
    have P := Lib.hid (PU16_32 (s.drop 2) (by rw [List.length_drop]; omega) w hL)
    obtain ⟨f1, f2⟩ := pu16 4294967295 (by decide) (by decide) (s.drop 2)
    have HL := Lib.hid hL
    have f3 : ∀ u, puH 4294967295 (s.drop 2) = some u → u ≤ 4294967295 := fun u h => by
      unfold puH at h
      split at h
      · cases h
      · exact px_le _ _ _ _ (Nat.zero_le _) h
    have key : ∀ u, puH 4294967295 (s.drop 2) = some u → (decide (48 :: 120 :: hexDigits u = s) = (rdH 4294967295 s).isSome) ∧ ∀ n, rdH 4294967295 s = some n → u = n := fun u hu => by
      obtain ⟨q1, q2⟩ := f1 u hu
      rcases s with _ | ⟨c, _ | ⟨d, t⟩⟩
      · simp at h2
      · simp at h2
      · by_cases q : c = 48 ∧ d = 120
        · obtain ⟨rfl, rfl⟩ := q
          rw [List.drop_succ_cons, List.drop_succ_cons, List.drop_zero] at q1 q2
          refine ⟨?_, q2⟩
          rw [show rdH 4294967295 (48 :: 120 :: t) = rdB 16 4294967295 t from rfl, ← q1]
          simp
        · have hN : rdH 4294967295 (c :: d :: t) = none := by
            unfold rdH
            split
            · rename_i heq
              injection heq with e1 e2
              injection e2 with e2 _
              exact absurd ⟨e1, e2⟩ q
            · rfl
          rw [hN]
          refine ⟨?_, fun n e => by cases e⟩
          rw [Option.isSome_none, decide_eq_false_iff_not]
          intro e
          injection e with e1 e2
          injection e2 with e2 _
          exact q ⟨e1.symm, e2.symm⟩
    have keyN : puH 4294967295 (s.drop 2) = none → rdH 4294967295 s = none := fun h => by
      rcases s with _ | ⟨c, _ | ⟨d, t⟩⟩
      · rfl
      · simp at h2
      · unfold rdH
        split
        · rename_i heq
          injection heq with e1 e2
          injection e2 with e2 e3
          have := f2 h
          rw [List.drop_succ_cons, List.drop_succ_cons, List.drop_zero, e3] at this
          exact this
        · rfl
    rw [← hsz] at hex
    generalize bs (s.drop 2) = D at P hex
    generalize puH 4294967295 (s.drop 2) = o1 at P key keyN f3
    have F1 := Lib.hid key
    have F2 := Lib.hid keyN
    have F3 := Lib.hid f3
    have hbq : ∀ l : List UInt8, ((bs l).toList == (bs s).toList) = decide (l = s) := fun l => by
      rw [bs_beq, Bool.eq_iff_iff]; simp
    have HBQ := Lib.hid hbq
    generalize rdH 4294967295 s = O at F1 F2 ⊢
    generalize hS : bs s = S at hsz hex HBQ
    have h2' : ¬ (S.size : Int) < 2 := by omega
    have h2'' : 2 ≤ S.size := by omega
    have hS9 : S.size ≤ 100 := by omega
    clear hbq f1 f2 f3 key keyN hL hS h2 hsz hs
    go_enter Tryz.func119, Tryz.ntmps119
    go_wp2_with fail
    refine P.out.mono ?_
    rintro e w1 ⟨ho, hb⟩
    have HB := Lib.hid hb
    clear hb
    rcases ho with ⟨v, rfl, rfl⟩ | ⟨rfl, x, N, rfl⟩
    · have F := Lib.hid (Hex_ok v (Nat.lt_of_le_of_lt (F3.out v rfl) (by decide)) w1 (HL.out.below HB.out))
      obtain ⟨g1, g2⟩ := F1.out v rfl
      have hq := (HBQ.out (48 :: 120 :: hexDigits v)).trans g1
      have G2 := Lib.hid g2
      generalize bs (48 :: 120 :: hexDigits v) = X at F hq
      generalize hO : O.isSome = q at hq
      clear g1 g2 HBQ F1 F2
      go_wp2_with (go_at_call 139; refine F.out.mono ?_; rintro e w2 ⟨rfl, hb⟩; have HB2 := Lib.hid (HB.out.trans (hb.mono HB.out.size)); clear hb)
      go_ret2
      exact ⟨v, by rw [hO]; rfl, fun n e => (by rw [G2.out n e]), HB2.out⟩
    · have hO := F2.out rfl
      subst hO
      go_wp2_with fail
      go_ret2
      exact ⟨x, rfl, fun n e => (by cases e), HB.out⟩
set_option maxHeartbeats 4000000 in
set_option maxRecDepth 100000 in
theorem Parse_32 (s : List UInt8) (hs : s.length ≤ 20) (w : World) (hL : Lw w) : Calls Tryz.prog 83 #[.int .i64 32, .string (bs s)] w (PaP (pzf 32 4294967295 s) w) := by
  have hsz := bs_size s
  have WY := Lib.hid (fun W : World => wide_yes 32 W (by simp [Wd.ok]))
  have A := Lib.hid (fun (W : World) (hb : Below w.heap.size w W) => uns_32 s (by omega) W (hL.below hb))
  have S_ := Lib.hid (fun (W : World) (hb : Below w.heap.size w W) => sig_32 s (by omega) W (hL.below hb))
  have H := Lib.hid (fun (W : World) (hb : Below w.heap.size w W) => hex_32 s (by omega) W (hL.below hb))
  unfold pzf
  generalize rdB 10 4294967295 s = oa at A ⊢
  generalize rdS 32 s = ob at S_ ⊢
  generalize rdH 4294967295 s = oc at H ⊢
  generalize bs s = S at A S_ H hsz
  have h20 : ¬ (20 : Int) < (S.size : Int) := by omega
  have hS9 : S.size ≤ 20 := by omega
  clear hL hsz hs
  have hix0 : ∀ W, (Instr.index 181 (.agg #[.func (.func 117) #[] #[], .func (.func 118) #[] #[], .func (.func 119) #[] #[]]) (.int .i64 0)).run Tryz.prog W = .ok (.func (.func 117) #[] #[]) W := fun W => idx70 W 0
  have hix1 : ∀ W, (Instr.index 181 (.agg #[.func (.func 117) #[] #[], .func (.func 118) #[] #[], .func (.func 119) #[] #[]]) (.int .i64 1)).run Tryz.prog W = .ok (.func (.func 118) #[] #[]) W := fun W => idx70 W 1
  have hix2 : ∀ W, (Instr.index 181 (.agg #[.func (.func 117) #[] #[], .func (.func 118) #[] #[], .func (.func 119) #[] #[]]) (.int .i64 2)).run Tryz.prog W = .ok (.func (.func 119) #[] #[]) W := fun W => idx70 W 2
  go_enter Tryz.func83, Tryz.ntmps83
  go_wp2_with (go_at_call 116; refine (WY.out _).mono ?_; rintro e w1 ⟨rfl, rfl⟩)
  go_loopw [17] (fun v17 wr => ∃ k : Nat, k ≤ 3 ∧ v17 = .int .i64 k ∧ Hid (1 ≤ k → oa = none) ∧ Hid (2 ≤ k → ob = none) ∧ Hid (3 ≤ k → oc = none) ∧ Hid (Below w.heap.size w wr)) (fun v17 _ => 3 - (intOf v17).toNat)
  case atStart => exact ⟨0, by decide, rfl, Lib.hid (fun h => by omega), Lib.hid (fun h => by omega), Lib.hid (fun h => by omega), Lib.hid (Below.refl _ _)⟩
  case round =>
    obtain ⟨k, hk, rfl, E1, E2, E3, HBl⟩ := hrel
    rcases (by omega : k = 0 ∨ k = 1 ∨ k = 2 ∨ k = 3) with rfl | rfl | rfl | rfl
    · have HC := Lib.hid (A.out wr HBl.out)
      cases oa with
      | some n =>
        go_wp2_with (go_at_call 117; refine HC.out.mono ?_; rintro e w2 ⟨x, rfl, hx, hb⟩; obtain rfl := hx n rfl; have HB2 := Lib.hid (HBl.out.trans (hb.mono HBl.out.size)); clear hb hx)
        go_ret2
        exact ⟨rfl, HB2.out⟩
      | none =>
        go_wp2_with (go_at_call 117; refine HC.out.mono ?_; rintro e w2 ⟨x, rfl, hx, hb⟩; have HB2 := Lib.hid (HBl.out.trans (hb.mono HBl.out.size)); clear hb hx)
        go_roundw
        case rel => exact ⟨1, by decide, by go_num, Lib.hid (fun _ => (by trivial)), Lib.hid (fun h => (by omega)), Lib.hid (fun h => (by omega)), HB2⟩
        case measure => simp [intOf]
    · have HC := Lib.hid (S_.out wr HBl.out)
      obtain rfl := E1.out (by decide)
      cases ob with
      | some n =>
        go_wp2_with (go_at_call 118; refine HC.out.mono ?_; rintro e w2 ⟨x, rfl, hx, hb⟩; obtain rfl := hx n rfl; have HB2 := Lib.hid (HBl.out.trans (hb.mono HBl.out.size)); clear hb hx)
        go_ret2
        exact ⟨rfl, HB2.out⟩
      | none =>
        go_wp2_with (go_at_call 118; refine HC.out.mono ?_; rintro e w2 ⟨x, rfl, hx, hb⟩; have HB2 := Lib.hid (HBl.out.trans (hb.mono HBl.out.size)); clear hb hx)
        go_roundw
        case rel => exact ⟨2, by decide, by go_num, Lib.hid (fun _ => (by trivial)), Lib.hid (fun _ => (by trivial)), Lib.hid (fun h => (by omega)), HB2⟩
        case measure => simp [intOf]
    · have HC := Lib.hid (H.out wr HBl.out)
      obtain rfl := E1.out (by decide)
      obtain rfl := E2.out (by decide)
      cases oc with
      | some n =>
        go_wp2_with (go_at_call 119; refine HC.out.mono ?_; rintro e w2 ⟨x, rfl, hx, hb⟩; obtain rfl := hx n rfl; have HB2 := Lib.hid (HBl.out.trans (hb.mono HBl.out.size)); clear hb hx)
        go_ret2
        exact ⟨rfl, HB2.out⟩
      | none =>
        go_wp2_with (go_at_call 119; refine HC.out.mono ?_; rintro e w2 ⟨x, rfl, hx, hb⟩; have HB2 := Lib.hid (HBl.out.trans (hb.mono HBl.out.size)); clear hb hx)
        go_roundw
        case rel => exact ⟨3, by decide, by go_num, Lib.hid (fun _ => (by trivial)), Lib.hid (fun _ => (by trivial)), Lib.hid (fun _ => (by trivial)), HB2⟩
        case measure => simp [intOf]
    · obtain rfl := E1.out (by decide)
      obtain rfl := E2.out (by decide)
      obtain rfl := E3.out (by decide)
      go_wp2
      go_ret2
      exact ⟨rfl, HBl.out⟩
set_option maxHeartbeats 4000000 in
set_option maxRecDepth 100000 in
theorem uns_64 (s : List UInt8) (hs : s.length ≤ 100) (w : World) (hL : Lw w) : Calls Tryz.prog 117 #[.int .i64 64, .string (bs s)] w (RP (rdB 10 18446744073709551615 s) w) := by
  have P := Lib.hid (PU10_64 s hs w hL)
  obtain ⟨f1, f2, f3⟩ := o10_facts 64 (by decide) s
  have HL := Lib.hid hL
  obtain ⟨O, eO⟩ : ∃ O, O = rdB 10 18446744073709551615 s := ⟨_, rfl⟩
  have f1 : ∀ u, o10 64 s = some u → (decide (Lib.decDigits u = s) = O.isSome) ∧ ∀ n, O = some n → u = n := by rw [eO]; exact f1
  have f2 : o10 64 s = none → O = none := by rw [eO]; exact f2
  rw [← eO]
  generalize o10 64 s = o1 at P f1 f2 f3
  have F1 := Lib.hid f1
  have F2 := Lib.hid f2
  have F3 := Lib.hid f3
  clear hL eO f1 f2 f3
  have hbq : ∀ l : List UInt8, ((bs l).toList == (bs s).toList) = decide (l = s) := fun l => by
    rw [bs_beq, Bool.eq_iff_iff]; simp
  have HBQ := Lib.hid hbq
  clear hbq
  go_enter Tryz.func117, Tryz.ntmps117
  go_wp2_with fail
  refine P.out.mono ?_
  rintro e w1 ⟨ho, hb⟩
  have HB := Lib.hid hb
  clear hb
  rcases ho with ⟨v, rfl, rfl⟩ | ⟨rfl, x, N, rfl⟩
  · have F := Lib.hid (FU10 v (F3.out v rfl) w1 (HL.out.below HB.out))
    obtain ⟨g1, g2⟩ := F1.out v rfl
    have hq := (HBQ.out (Lib.decDigits v)).trans g1
    have G2 := Lib.hid g2
    generalize bs (Lib.decDigits v) = X at F hq
    generalize hS : bs s = S at hq
    generalize hO : O.isSome = q at hq
    clear hS g1 g2 HBQ
    go_wp2_with (go_at_call 91; refine F.out.mono ?_; rintro e w2 ⟨rfl, hb⟩; have HB2 := Lib.hid (HB.out.trans (hb.mono HB.out.size)); clear hb)
    go_ret2
    exact ⟨v, by rw [hO]; rfl, fun n e => (by rw [G2.out n e]), HB2.out⟩
  · have hO := F2.out rfl
    subst hO
    go_wp2_with fail
    go_ret2
    exact ⟨x, rfl, fun n e => (by cases e), HB.out⟩
set_option maxHeartbeats 4000000 in
set_option maxRecDepth 100000 in
theorem sig_64 (s : List UInt8) (hs : s.length ≤ 100) (w : World) (hL : Lw w) : Calls Tryz.prog 118 #[.int .i64 64, .string (bs s)] w (RP (rdS 64 s) w) := by
  have P := Lib.hid (PI10_64 s hs w hL)
  obtain ⟨f1, f2⟩ := oI_facts 64 (by decide) s
  have HL := Lib.hid hL
  rw [show rdS 64 s = (rdI 64 s).map (fun v => Wd.cut 64 (wu v)) from rfl]
  obtain ⟨O, eO⟩ : ∃ O, O = rdI 64 s := ⟨_, rfl⟩
  rw [← eO] at f1 f2 ⊢
  obtain ⟨O2, eO2⟩ : ∃ O2, O2 = O.map (fun v => Wd.cut 64 (wu v)) := ⟨_, rfl⟩
  rw [← eO2]
  have EO2 := Lib.hid eO2
  generalize oI 64 s = o1 at P f1 f2
  have F1 := Lib.hid f1
  have F2 := Lib.hid f2
  clear hL eO eO2 f1 f2
  have hbq : ∀ l : List UInt8, ((bs l).toList == (bs s).toList) = decide (l = s) := fun l => by
    rw [bs_beq, Bool.eq_iff_iff]; simp
  have HBQ := Lib.hid hbq
  clear hbq
  go_enter Tryz.func118, Tryz.ntmps118
  go_wp2_with fail
  refine P.out.mono ?_
  rintro e w1 ⟨ho, hb⟩
  have HB := Lib.hid hb
  clear hb
  rcases ho with ⟨v, rfl, rfl⟩ | ⟨rfl, x, N, hx0, hx1, rfl⟩
  · obtain ⟨g1, g2, g3, g4⟩ := F1.out v rfl
    have hsg := sgn_wu64 v g3 g4
    obtain ⟨hw, hw2⟩ := wu_eq v
    have hc := Wd.cut_lt (n := 64) (by simp [Wd.ok]) hw2
    have hc2 : Wd.cut 64 (wu v) < 18446744073709551616 := Nat.lt_of_lt_of_le hc (Wd.md_le (by simp [Wd.ok]))
    have F := Print_ok 64 (Wd.cut 64 (wu v)) hc2 w1 (HL.out.below HB.out)
    rw [hsg] at F
    have C := Lib.hid (fun W : World => WCut_any 64 (wu v) W)
    have hq := (HBQ.out (Lib.itoa v)).trans g1
    have G2 := Lib.hid (show ∀ n : Nat, O2 = some n → ((Wd.cut 64 (wu v) : Nat) : Int) = n from fun n e => by
      rw [EO2.out] at e
      cases hO : O with
      | none => rw [hO] at e; cases e
      | some z =>
        rw [hO] at e
        injection e with e
        rw [← e, g2 z hO])
    have hO2 : O2.isSome = O.isSome := by rw [EO2.out]; cases O <;> rfl
    have FF := Lib.hid F
    rw [← hO2] at hq
    clear F g1 g2 g3 g4 hsg hc hc2 hO2
    generalize Wd.cut 64 (wu v) = c at FF C G2
    generalize bs (Lib.itoa v) = X at FF hq
    generalize hS : bs s = S at hq
    generalize hO : O2.isSome = q at hq
    clear hS HBQ F1 F2 EO2
    go_wp2_with (first
      | (go_at_call 130; refine (C.out _).mono ?_; rintro e w2 ⟨rfl, rfl⟩)
      | (go_at_call 64; refine FF.out.mono ?_; rintro e w2 ⟨rfl, hb⟩; have HB2 := Lib.hid (HB.out.trans (hb.mono HB.out.size)); clear hb))
    go_ret2
    exact ⟨c, by rw [hO]; rfl, G2.out, HB2.out⟩
  · have hO : O2 = none := by rw [EO2.out, F2.out rfl]; rfl
    subst hO
    obtain ⟨hw, hw2⟩ := wu_eq x
    have C := Lib.hid (fun W : World => WCut_any 64 (wu x) W)
    go_wp2_with (go_at_call 130; refine (C.out _).mono ?_; rintro e w2 ⟨rfl, rfl⟩)
    go_ret2
    exact ⟨_, rfl, fun n e => (by cases e), HB.out⟩
set_option maxHeartbeats 4000000 in
set_option maxRecDepth 100000 in
theorem hex_64 (s : List UInt8) (hs : s.length ≤ 100) (w : World) (hL : Lw w) : Calls Tryz.prog 119 #[.int .i64 64, .string (bs s)] w (RP (rdH 18446744073709551615 s) w) := by
  have hsz := bs_size s
  by_cases h2 : s.length < 2
  · have hO : rdH 18446744073709551615 s = none := by
      unfold rdH
      split
      · simp at h2; omega
      · rfl
    rw [hO]
    generalize bs s = S at hsz
    have h2' : (S.size : Int) < 2 := by omega
    clear hsz
    go_enter Tryz.func119, Tryz.ntmps119
    go_wp2
    go_ret2
    exact ⟨0, rfl, fun n e => (by cases e), Below.refl _ _⟩
  · have hex := ext_drop s 2
    have P := Lib.hid (PU16_64 (s.drop 2) (by rw [List.length_drop]; omega) w hL)
    obtain ⟨f1, f2⟩ := pu16 18446744073709551615 (by decide) (by decide) (s.drop 2)
    have HL := Lib.hid hL
    have f3 : ∀ u, puH 18446744073709551615 (s.drop 2) = some u → u ≤ 18446744073709551615 := fun u h => by
      unfold puH at h
      split at h
      · cases h
      · exact px_le _ _ _ _ (Nat.zero_le _) h
    have key : ∀ u, puH 18446744073709551615 (s.drop 2) = some u → (decide (48 :: 120 :: hexDigits u = s) = (rdH 18446744073709551615 s).isSome) ∧ ∀ n, rdH 18446744073709551615 s = some n → u = n := fun u hu => by
      obtain ⟨q1, q2⟩ := f1 u hu
      rcases s with _ | ⟨c, _ | ⟨d, t⟩⟩
      · simp at h2
      · simp at h2
      · by_cases q : c = 48 ∧ d = 120
        · obtain ⟨rfl, rfl⟩ := q
          rw [List.drop_succ_cons, List.drop_succ_cons, List.drop_zero] at q1 q2
          refine ⟨?_, q2⟩
          rw [show rdH 18446744073709551615 (48 :: 120 :: t) = rdB 16 18446744073709551615 t from rfl, ← q1]
          simp
        · have hN : rdH 18446744073709551615 (c :: d :: t) = none := by
            unfold rdH
            split
            · rename_i heq
              injection heq with e1 e2
              injection e2 with e2 _
              exact absurd ⟨e1, e2⟩ q
            · rfl
          rw [hN]
          refine ⟨?_, fun n e => by cases e⟩
          rw [Option.isSome_none, decide_eq_false_iff_not]
          intro e
          injection e with e1 e2
          injection e2 with e2 _
          exact q ⟨e1.symm, e2.symm⟩
    have keyN : puH 18446744073709551615 (s.drop 2) = none → rdH 18446744073709551615 s = none := fun h => by
      rcases s with _ | ⟨c, _ | ⟨d, t⟩⟩
      · rfl
      · simp at h2
      · unfold rdH
        split
        · rename_i heq
          injection heq with e1 e2
          injection e2 with e2 e3
          have := f2 h
          rw [List.drop_succ_cons, List.drop_succ_cons, List.drop_zero, e3] at this
          exact this
        · rfl
    rw [← hsz] at hex
    generalize bs (s.drop 2) = D at P hex
    generalize puH 18446744073709551615 (s.drop 2) = o1 at P key keyN f3
    have F1 := Lib.hid key
    have F2 := Lib.hid keyN
    have F3 := Lib.hid f3
    have hbq : ∀ l : List UInt8, ((bs l).toList == (bs s).toList) = decide (l = s) := fun l => by
      rw [bs_beq, Bool.eq_iff_iff]; simp
    have HBQ := Lib.hid hbq
    generalize rdH 18446744073709551615 s = O at F1 F2 ⊢
    generalize hS : bs s = S at hsz hex HBQ
    have h2' : ¬ (S.size : Int) < 2 := by omega
    have h2'' : 2 ≤ S.size := by omega
    have hS9 : S.size ≤ 100 := by omega
    clear hbq f1 f2 f3 key keyN hL hS h2 hsz hs
    go_enter Tryz.func119, Tryz.ntmps119
    go_wp2_with fail
    refine P.out.mono ?_
    rintro e w1 ⟨ho, hb⟩
    have HB := Lib.hid hb
    clear hb
    rcases ho with ⟨v, rfl, rfl⟩ | ⟨rfl, x, N, rfl⟩
    · have F := Lib.hid (Hex_ok v (Nat.lt_of_le_of_lt (F3.out v rfl) (by decide)) w1 (HL.out.below HB.out))
      obtain ⟨g1, g2⟩ := F1.out v rfl
      have hq := (HBQ.out (48 :: 120 :: hexDigits v)).trans g1
      have G2 := Lib.hid g2
      generalize bs (48 :: 120 :: hexDigits v) = X at F hq
      generalize hO : O.isSome = q at hq
      clear g1 g2 HBQ F1 F2
      go_wp2_with (go_at_call 139; refine F.out.mono ?_; rintro e w2 ⟨rfl, hb⟩; have HB2 := Lib.hid (HB.out.trans (hb.mono HB.out.size)); clear hb)
      go_ret2
      exact ⟨v, by rw [hO]; rfl, fun n e => (by rw [G2.out n e]), HB2.out⟩
    · have hO := F2.out rfl
      subst hO
      go_wp2_with fail
      go_ret2
      exact ⟨x, rfl, fun n e => (by cases e), HB.out⟩
set_option maxHeartbeats 4000000 in
set_option maxRecDepth 100000 in
theorem Parse_64 (s : List UInt8) (hs : s.length ≤ 20) (w : World) (hL : Lw w) : Calls Tryz.prog 83 #[.int .i64 64, .string (bs s)] w (PaP (pzf 64 18446744073709551615 s) w) := by
  have hsz := bs_size s
  have WY := Lib.hid (fun W : World => wide_yes 64 W (by simp [Wd.ok]))
  have A := Lib.hid (fun (W : World) (hb : Below w.heap.size w W) => uns_64 s (by omega) W (hL.below hb))
  have S_ := Lib.hid (fun (W : World) (hb : Below w.heap.size w W) => sig_64 s (by omega) W (hL.below hb))
  have H := Lib.hid (fun (W : World) (hb : Below w.heap.size w W) => hex_64 s (by omega) W (hL.below hb))
  unfold pzf
  generalize rdB 10 18446744073709551615 s = oa at A ⊢
  generalize rdS 64 s = ob at S_ ⊢
  generalize rdH 18446744073709551615 s = oc at H ⊢
  generalize bs s = S at A S_ H hsz
  have h20 : ¬ (20 : Int) < (S.size : Int) := by omega
  have hS9 : S.size ≤ 20 := by omega
  clear hL hsz hs
  have hix0 : ∀ W, (Instr.index 181 (.agg #[.func (.func 117) #[] #[], .func (.func 118) #[] #[], .func (.func 119) #[] #[]]) (.int .i64 0)).run Tryz.prog W = .ok (.func (.func 117) #[] #[]) W := fun W => idx70 W 0
  have hix1 : ∀ W, (Instr.index 181 (.agg #[.func (.func 117) #[] #[], .func (.func 118) #[] #[], .func (.func 119) #[] #[]]) (.int .i64 1)).run Tryz.prog W = .ok (.func (.func 118) #[] #[]) W := fun W => idx70 W 1
  have hix2 : ∀ W, (Instr.index 181 (.agg #[.func (.func 117) #[] #[], .func (.func 118) #[] #[], .func (.func 119) #[] #[]]) (.int .i64 2)).run Tryz.prog W = .ok (.func (.func 119) #[] #[]) W := fun W => idx70 W 2
  go_enter Tryz.func83, Tryz.ntmps83
  go_wp2_with (go_at_call 116; refine (WY.out _).mono ?_; rintro e w1 ⟨rfl, rfl⟩)
  go_loopw [17] (fun v17 wr => ∃ k : Nat, k ≤ 3 ∧ v17 = .int .i64 k ∧ Hid (1 ≤ k → oa = none) ∧ Hid (2 ≤ k → ob = none) ∧ Hid (3 ≤ k → oc = none) ∧ Hid (Below w.heap.size w wr)) (fun v17 _ => 3 - (intOf v17).toNat)
  case atStart => exact ⟨0, by decide, rfl, Lib.hid (fun h => by omega), Lib.hid (fun h => by omega), Lib.hid (fun h => by omega), Lib.hid (Below.refl _ _)⟩
  case round =>
    obtain ⟨k, hk, rfl, E1, E2, E3, HBl⟩ := hrel
    rcases (by omega : k = 0 ∨ k = 1 ∨ k = 2 ∨ k = 3) with rfl | rfl | rfl | rfl
    · have HC := Lib.hid (A.out wr HBl.out)
      cases oa with
      | some n =>
        go_wp2_with (go_at_call 117; refine HC.out.mono ?_; rintro e w2 ⟨x, rfl, hx, hb⟩; obtain rfl := hx n rfl; have HB2 := Lib.hid (HBl.out.trans (hb.mono HBl.out.size)); clear hb hx)
        go_ret2
        exact ⟨rfl, HB2.out⟩
      | none =>
        go_wp2_with (go_at_call 117; refine HC.out.mono ?_; rintro e w2 ⟨x, rfl, hx, hb⟩; have HB2 := Lib.hid (HBl.out.trans (hb.mono HBl.out.size)); clear hb hx)
        go_roundw
        case rel => exact ⟨1, by decide, by go_num, Lib.hid (fun _ => (by trivial)), Lib.hid (fun h => (by omega)), Lib.hid (fun h => (by omega)), HB2⟩
        case measure => simp [intOf]
    · have HC := Lib.hid (S_.out wr HBl.out)
      obtain rfl := E1.out (by decide)
      cases ob with
      | some n =>
        go_wp2_with (go_at_call 118; refine HC.out.mono ?_; rintro e w2 ⟨x, rfl, hx, hb⟩; obtain rfl := hx n rfl; have HB2 := Lib.hid (HBl.out.trans (hb.mono HBl.out.size)); clear hb hx)
        go_ret2
        exact ⟨rfl, HB2.out⟩
      | none =>
        go_wp2_with (go_at_call 118; refine HC.out.mono ?_; rintro e w2 ⟨x, rfl, hx, hb⟩; have HB2 := Lib.hid (HBl.out.trans (hb.mono HBl.out.size)); clear hb hx)
        go_roundw
        case rel => exact ⟨2, by decide, by go_num, Lib.hid (fun _ => (by trivial)), Lib.hid (fun _ => (by trivial)), Lib.hid (fun h => (by omega)), HB2⟩
        case measure => simp [intOf]
    · have HC := Lib.hid (H.out wr HBl.out)
      obtain rfl := E1.out (by decide)
      obtain rfl := E2.out (by decide)
      cases oc with
      | some n =>
        go_wp2_with (go_at_call 119; refine HC.out.mono ?_; rintro e w2 ⟨x, rfl, hx, hb⟩; obtain rfl := hx n rfl; have HB2 := Lib.hid (HBl.out.trans (hb.mono HBl.out.size)); clear hb hx)
        go_ret2
        exact ⟨rfl, HB2.out⟩
      | none =>
        go_wp2_with (go_at_call 119; refine HC.out.mono ?_; rintro e w2 ⟨x, rfl, hx, hb⟩; have HB2 := Lib.hid (HBl.out.trans (hb.mono HBl.out.size)); clear hb hx)
        go_roundw
        case rel => exact ⟨3, by decide, by go_num, Lib.hid (fun _ => (by trivial)), Lib.hid (fun _ => (by trivial)), Lib.hid (fun _ => (by trivial)), HB2⟩
        case measure => simp [intOf]
    · obtain rfl := E1.out (by decide)
      obtain rfl := E2.out (by decide)
      obtain rfl := E3.out (by decide)
      go_wp2
      go_ret2
      exact ⟨rfl, HBl.out⟩
end Go.Proofs.YtggfaalodojjkaaGreatDoor
