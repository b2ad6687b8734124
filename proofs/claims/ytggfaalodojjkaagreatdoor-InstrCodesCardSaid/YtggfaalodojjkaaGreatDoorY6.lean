/-
  Texts of YtggfaalodojjkaaGreatDoorY6.
-/
import Derived.Test.YtggfaalodojjkaaGreatDoorY5
import Derived.Test.YtggfaalodojjkaaGreatDoorY4
import Derived.BigGuard
import Derived.ProofKit
import Derived.Deep.RegionHeld3
namespace Go.Proofs.YtggfaalodojjkaaGreatDoor
open Go.RowKit Go.ChangeShapes Go.WideShapes Go.ChangeAt
set_option linter.unusedVariables false
set_option linter.unusedSimpArgs false
theorem wide_yes (t : Int) (w : World) (h : Wd.ok t) : Calls Tryz.prog 116 #[.int .i64 t] w fun e w' => e = .returned (.bool true) ∧ w = w' := by
  rcases h with rfl | rfl
  all_goals
    go_enter Tryz.func116, Tryz.ntmps116
    go_wp2
    go_ret
    exact ⟨rfl, rfl⟩
/-- what conv's readers tell: a word, and whether it is one -/
def RP (o : Option Nat) (w : World) (e : Ending) (w' : World) : Prop :=
  ∃ x : Int, e = .returned (.tuple #[.int .u64 x, .bool o.isSome]) ∧ (∀ n : Nat, o = some n → x = n) ∧ Below w.heap.size w w'
def wu (v : Int) : Nat := (IntKind.u64.wrap v).toNat
theorem wu_eq (v : Int) : IntKind.u64.wrap v = (wu v : Int) ∧ wu v < 18446744073709551616 := by
  unfold wu
  rw [IntKind.wrap_u64]
  omega
theorem sgn_wu32 (v : Int) (h0 : -2147483648 ≤ v) (h1 : v < 2147483648) : Wd.sgn 32 (Wd.cut 32 (wu v)) = v := by
  have hw := (wu_eq v).1
  rw [IntKind.wrap_u64] at hw
  simp only [Wd.sgn, Wd.cut, if_true]
  generalize wu v = a at hw
  split <;> omega
theorem sgn_wu64 (v : Int) (h0 : -9223372036854775808 ≤ v) (h1 : v < 9223372036854775808) : Wd.sgn 64 (Wd.cut 64 (wu v)) = v := by
  have hw := (wu_eq v).1
  rw [IntKind.wrap_u64] at hw
  simp only [Wd.sgn, Wd.cut, show ((64 : Int) = 32) = False from by simp, if_false]
  generalize wu v = a at hw
  split <;> omega
def rdH (M : Nat) (s : List UInt8) : Option Nat := match s with
  | 48 :: 120 :: t => rdB 16 M t
  | _ => none
def rdS (B : Nat) (s : List UInt8) : Option Nat := (rdI B s).map fun v => Wd.cut B (wu v)
theorem ext_drop (r : List UInt8) (i : Nat) : (bs r).extract i r.length = bs (r.drop i) := by
  apply ByteArray.ext
  simp [bs, ByteArray.data_extract]
  exact List.take_of_length_le (by simp)
/-- the first one that there is -/
def fst3 (a b c : Option Nat) : Option Nat := match a with
  | some x => some x
  | none => match b with
    | some y => some y
    | none => c
def pzf (B M : Nat) (s : List UInt8) : Option Nat := fst3 (rdB 10 M s) (rdS B s) (rdH M s)
def PaP (o : Option Nat) (w : World) (e : Ending) (w' : World) : Prop :=
  e = .returned (.tuple #[.int .u64 ((o.getD 0 : Nat) : Int), .int .i64 (if o.isSome = true then 0 else 4)]) ∧ Below w.heap.size w w'
theorem idx70 (W : World) : (∀ j : Fin 3, (Instr.index 181 (.agg #[.func (.func 117) #[] #[], .func (.func 118) #[] #[], .func (.func 119) #[] #[]]) (.int .i64 (j.val : Int))).run Tryz.prog W = .ok (.func (.func (117 + j.val)) #[] #[]) W) := by
  intro j
  rcases j with ⟨j, hj⟩
  rcases (by omega : j = 0 ∨ j = 1 ∨ j = 2) with rfl | rfl | rfl <;> kernel_rfl
set_option maxHeartbeats 4000000 in
set_option maxRecDepth 100000 in
theorem uns_32 (s : List UInt8) (hs : s.length ≤ 100) (w : World) (hL : Lw w) : Calls Tryz.prog 117 #[.int .i64 32, .string (bs s)] w (RP (rdB 10 4294967295 s) w) := by
  have P := Lib.hid (PU10_32 s hs w hL)
  obtain ⟨f1, f2, f3⟩ := o10_facts 32 (by decide) s
  have HL := Lib.hid hL
  obtain ⟨O, eO⟩ : ∃ O, O = rdB 10 4294967295 s := ⟨_, rfl⟩
  have f1 : ∀ u, o10 32 s = some u → (decide (Lib.decDigits u = s) = O.isSome) ∧ ∀ n, O = some n → u = n := by rw [eO]; exact f1
  have f2 : o10 32 s = none → O = none := by rw [eO]; exact f2
  rw [← eO]
  generalize o10 32 s = o1 at P f1 f2 f3
  have F1 := Lib.hid f1
  have F2 := Lib.hid f2
  have F3 := Lib.hid f3
  clear hL eO f1 f2 f3
  have hbq : ∀ l : List UInt8, ((bs l).toList == (bs s).toList) = decide (l = s) := fun l => by
    rw [bs_beq, Bool.eq_iff_iff]; simp
  have HBQ := Lib.hid hbq
  clear hbq
  go_enter Tryz.func117, Tryz.ntmps117
  go_wp2_with fail
  refine P.out.mono ?_
  rintro e w1 ⟨ho, hb⟩
  have HB := Lib.hid hb
  clear hb
  rcases ho with ⟨v, rfl, rfl⟩ | ⟨rfl, x, N, rfl⟩
  · have F := Lib.hid (FU10 v (F3.out v rfl) w1 (HL.out.below HB.out))
    obtain ⟨g1, g2⟩ := F1.out v rfl
    have hq := (HBQ.out (Lib.decDigits v)).trans g1
    have G2 := Lib.hid g2
    generalize bs (Lib.decDigits v) = X at F hq
    generalize hS : bs s = S at hq
    generalize hO : O.isSome = q at hq
    clear hS g1 g2 HBQ
    go_wp2_with (go_at_call 91; refine F.out.mono ?_; rintro e w2 ⟨rfl, hb⟩; have HB2 := Lib.hid (HB.out.trans (hb.mono HB.out.size)); clear hb)
    go_ret2
    exact ⟨v, by rw [hO]; rfl, fun n e => (by rw [G2.out n e]), HB2.out⟩
  · have hO := F2.out rfl
    subst hO
    go_wp2_with fail
    go_ret2
    exact ⟨x, rfl, fun n e => (by cases e), HB.out⟩
set_option maxHeartbeats 4000000 in
set_option maxRecDepth 100000 in
theorem sig_32 (s : List UInt8) (hs : s.length ≤ 100) (w : World) (hL : Lw w) : Calls Tryz.prog 118 #[.int .i64 32, .string (bs s)] w (RP (rdS 32 s) w) := by
  have P := Lib.hid (PI10_32 s hs w hL)
  obtain ⟨f1, f2⟩ := oI_facts 32 (by decide) s
  have HL := Lib.hid hL
  rw [show rdS 32 s = (rdI 32 s).map (fun v => Wd.cut 32 (wu v)) from rfl]
  obtain ⟨O, eO⟩ : ∃ O, O = rdI 32 s := ⟨_, rfl⟩
  rw [← eO] at f1 f2 ⊢
  obtain ⟨O2, eO2⟩ : ∃ O2, O2 = O.map (fun v => Wd.cut 32 (wu v)) := ⟨_, rfl⟩
  rw [← eO2]
  have EO2 := Lib.hid eO2
  generalize oI 32 s = o1 at P f1 f2
  have F1 := Lib.hid f1
  have F2 := Lib.hid f2
  clear hL eO eO2 f1 f2
  have hbq : ∀ l : List UInt8, ((bs l).toList == (bs s).toList) = decide (l = s) := fun l => by
    rw [bs_beq, Bool.eq_iff_iff]; simp
  have HBQ := Lib.hid hbq
  clear hbq
  go_enter Tryz.func118, Tryz.ntmps118
  go_wp2_with fail
  refine P.out.mono ?_
  rintro e w1 ⟨ho, hb⟩
  have HB := Lib.hid hb
  clear hb
  rcases ho with ⟨v, rfl, rfl⟩ | ⟨rfl, x, N, hx0, hx1, rfl⟩
  · obtain ⟨g1, g2, g3, g4⟩ := F1.out v rfl
    have hsg := sgn_wu32 v g3 g4
    obtain ⟨hw, hw2⟩ := wu_eq v
    have hc := Wd.cut_lt (n := 32) (by simp [Wd.ok]) hw2
    have hc2 : Wd.cut 32 (wu v) < 18446744073709551616 := Nat.lt_of_lt_of_le hc (Wd.md_le (by simp [Wd.ok]))
    have F := Print_ok 32 (Wd.cut 32 (wu v)) hc2 w1 (HL.out.below HB.out)
    rw [hsg] at F
    have C := Lib.hid (fun W : World => WCut_any 32 (wu v) W)
    have hq := (HBQ.out (Lib.itoa v)).trans g1
    have G2 := Lib.hid (show ∀ n : Nat, O2 = some n → ((Wd.cut 32 (wu v) : Nat) : Int) = n from fun n e => by
      rw [EO2.out] at e
      cases hO : O with
      | none => rw [hO] at e; cases e
      | some z =>
        rw [hO] at e
        injection e with e
        rw [← e, g2 z hO])
    have hO2 : O2.isSome = O.isSome := by rw [EO2.out]; cases O <;> rfl
    have FF := Lib.hid F
    rw [← hO2] at hq
    clear F g1 g2 g3 g4 hsg hc hc2 hO2
    generalize Wd.cut 32 (wu v) = c at FF C G2
    generalize bs (Lib.itoa v) = X at FF hq
    generalize hS : bs s = S at hq
    generalize hO : O2.isSome = q at hq
    clear hS HBQ F1 F2 EO2
    go_wp2_with (first
      | (go_at_call 130; refine (C.out _).mono ?_; rintro e w2 ⟨rfl, rfl⟩)
      | (go_at_call 64; refine FF.out.mono ?_; rintro e w2 ⟨rfl, hb⟩; have HB2 := Lib.hid (HB.out.trans (hb.mono HB.out.size)); clear hb))
    go_ret2
    exact ⟨c, by rw [hO]; rfl, G2.out, HB2.out⟩
  · have hO : O2 = none := by rw [EO2.out, F2.out rfl]; rfl
    subst hO
    obtain ⟨hw, hw2⟩ := wu_eq x
    have C := Lib.hid (fun W : World => WCut_any 32 (wu x) W)
    go_wp2_with (go_at_call 130; refine (C.out _).mono ?_; rintro e w2 ⟨rfl, rfl⟩)
    go_ret2
    exact ⟨_, rfl, fun n e => (by cases e), HB.out⟩
set_option maxHeartbeats 4000000 in
set_option maxRecDepth 100000 in
theorem hex_32 (s : List UInt8) (hs : s.length ≤ 100) (w : World) (hL : Lw w) : Calls Tryz.prog 119 #[.int .i64 32, .string (bs s)] w (RP (rdH 4294967295 s) w) := by
  have hsz := bs_size s
  by_cases h2 : s.length < 2
  · have hO : rdH 4294967295 s = none := by
      unfold rdH
      split
      · simp at h2; omega
      · rfl
    rw [hO]
    generalize bs s = S at hsz
    have h2' : (S.size : Int) < 2 := by omega
    clear hsz
    go_enter Tryz.func119, Tryz.ntmps119
    go_wp2
    go_ret2
    exact ⟨0, rfl, fun n e => (by cases e), Below.refl _ _⟩
  · have hex := ext_drop s 2
    have P := Lib.hid (PU16_32 (s.drop 2) (by rw [List.length_drop]; omega) w hL)
    obtain ⟨f1, f2⟩ := pu16 4294967295 (by decide) (by decide) (s.drop 2)
    have HL := Lib.hid hL
    have f3 : ∀ u, puH 4294967295 (s.drop 2) = some u → u ≤ 4294967295 := fun u h => by
      unfold puH at h
      split at h
      · cases h
      · exact px_le _ _ _ _ (Nat.zero_le _) h
    have key : ∀ u, puH 4294967295 (s.drop 2) = some u → (decide (48 :: 120 :: hexDigits u = s) = (rdH 4294967295 s).isSome) ∧ ∀ n, rdH 4294967295 s = some n → u = n := fun u hu => by
      obtain ⟨q1, q2⟩ := f1 u hu
      rcases s with _ | ⟨c, _ | ⟨d, t⟩⟩
      · simp at h2
      · simp at h2
      · by_cases q : c = 48 ∧ d = 120
        · obtain ⟨rfl, rfl⟩ := q
          rw [List.drop_succ_cons, List.drop_succ_cons, List.drop_zero] at q1 q2
          refine ⟨?_, q2⟩
          rw [show rdH 4294967295 (48 :: 120 :: t) = rdB 16 4294967295 t from rfl, ← q1]
          simp
        · have hN : rdH 4294967295 (c :: d :: t) = none := by
            unfold rdH
            split
            · rename_i heq
              injection heq with e1 e2
              injection e2 with e2 _
              exact absurd ⟨e1, e2⟩ q
            · rfl
          rw [hN]
          refine ⟨?_, fun n e => by cases e⟩
          rw [Option.isSome_none, decide_eq_false_iff_not]
          intro e
          injection e with e1 e2
          injection e2 with e2 _
          exact q ⟨e1.symm, e2.symm⟩
    have keyN : puH 4294967295 (s.drop 2) = none → rdH 4294967295 s = none := fun h => by
      rcases s with _ | ⟨c, _ | ⟨d, t⟩⟩
      · rfl
      · simp at h2
      · unfold rdH
        split
        · rename_i heq
          injection heq with e1 e2
          injection e2 with e2 e3
          have := f2 h
          rw [List.drop_succ_cons, List.drop_succ_cons, List.drop_zero, e3] at this
          exact this
        · rfl
    rw [← hsz] at hex
    generalize bs (s.drop 2) = D at P hex
    generalize puH 4294967295 (s.drop 2) = o1 at P key keyN f3
    have F1 := Lib.hid key
    have F2 := Lib.hid keyN
    have F3 := Lib.hid f3
    have hbq : ∀ l : List UInt8, ((bs l).toList == (bs s).toList) = decide (l = s) := fun l => by
      rw [bs_beq, Bool.eq_iff_iff]; simp
    have HBQ := Lib.hid hbq
    generalize rdH 4294967295 s = O at F1 F2 ⊢
    generalize hS : bs s = S at hsz hex HBQ
    have h2' : ¬ (S.size : Int) < 2 := by omega
    have h2'' : 2 ≤ S.size := by omega
    have hS9 : S.size ≤ 100 := by omega
    clear hbq f1 f2 f3 key keyN hL hS h2 hsz hs
    go_enter Tryz.func119, Tryz.ntmps119
    go_wp2_with fail
    refine P.out.mono ?_
    rintro e w1 ⟨ho, hb⟩
    have HB := Lib.hid hb
    clear hb
    rcases ho with ⟨v, rfl, rfl⟩ | ⟨rfl, x, N, rfl⟩
    · have F := Lib.hid (Hex_ok v (Nat.lt_of_le_of_lt (F3.out v rfl) (by decide)) w1 (HL.out.below HB.out))
      obtain ⟨g1, g2⟩ := F1.out v rfl
      have hq := (HBQ.out (48 :: 120 :: hexDigits v)).trans g1
      have G2 := Lib.hid g2
      generalize bs (48 :: 120 :: hexDigits v) = X at F hq
      generalize hO : O.isSome = q at hq
      clear g1 g2 HBQ F1 F2
      go_wp2_with (go_at_call 139; refine F.out.mono ?_; rintro e w2 ⟨rfl, hb⟩; have HB2 := Lib.hid (HB.out.trans (hb.mono HB.out.size)); clear hb)
      go_ret2
      exact ⟨v, by rw [hO]; rfl, fun n e => (by rw [G2.out n e]), HB2.out⟩
    · have hO := F2.out rfl
      subst hO
      go_wp2_with fail
      go_ret2
      exact ⟨x, rfl, fun n e => (by cases e), HB.out⟩
set_option maxHeartbeats 4000000 in
set_option maxRecDepth 100000 in
theorem Parse_32 (s : List UInt8) (hs : s.length ≤ 20) (w : World) (hL : Lw w) : Calls Tryz.prog 83 #[.int .i64 32, .string (bs s)] w (PaP (pzf 32 4294967295 s) w) := by
  have hsz := bs_size s
  have WY := Lib.hid (fun W : World => wide_yes 32 W (by simp [Wd.ok]))
  have A := Lib.hid (fun (W : World) (hb : Below w.heap.size w W) => uns_32 s (by omega) W (hL.below hb))
  have S_ := Lib.hid (fun (W : World) (hb : Below w.heap.size w W) => sig_32 s (by omega) W (hL.below hb))
  have H := Lib.hid (fun (W : World) (hb : Below w.heap.size w W) => hex_32 s (by omega) W (hL.below hb))
  unfold pzf
  generalize rdB 10 4294967295 s = oa at A ⊢
  generalize rdS 32 s = ob at S_ ⊢
  generalize rdH 4294967295 s = oc at H ⊢
  generalize bs s = S at A S_ H hsz
  have h20 : ¬ (20 : Int) < (S.size : Int) := by omega
  have hS9 : S.size ≤ 20 := by omega
  clear hL hsz hs
  have hix0 : ∀ W, (Instr.index 181 (.agg #[.func (.func 117) #[] #[], .func (.func 118) #[] #[], .func (.func 119) #[] #[]]) (.int .i64 0)).run Tryz.prog W = .ok (.func (.func 117) #[] #[]) W := fun W => idx70 W 0
  have hix1 : ∀ W, (Instr.index 181 (.agg #[.func (.func 117) #[] #[], .func (.func 118) #[] #[], .func (.func 119) #[] #[]]) (.int .i64 1)).run Tryz.prog W = .ok (.func (.func 118) #[] #[]) W := fun W => idx70 W 1
  have hix2 : ∀ W, (Instr.index 181 (.agg #[.func (.func 117) #[] #[], .func (.func 118) #[] #[], .func (.func 119) #[] #[]]) (.int .i64 2)).run Tryz.prog W = .ok (.func (.func 119) #[] #[]) W := fun W => idx70 W 2
  go_enter Tryz.func83, Tryz.ntmps83
  go_wp2_with (go_at_call 116; refine (WY.out _).mono ?_; rintro e w1 ⟨rfl, rfl⟩)
  go_loopw [17] (fun v17 wr => ∃ k : Nat, k ≤ 3 ∧ v17 = .int .i64 k ∧ Hid (1 ≤ k → oa = none) ∧ Hid (2 ≤ k → ob = none) ∧ Hid (3 ≤ k → oc = none) ∧ Hid (Below w.heap.size w wr)) (fun v17 _ => 3 - (intOf v17).toNat)
  case atStart => exact ⟨0, by decide, rfl, Lib.hid (fun h => by omega), Lib.hid (fun h => by omega), Lib.hid (fun h => by omega), Lib.hid (Below.refl _ _)⟩
  case round =>
    obtain ⟨k, hk, rfl, E1, E2, E3, HBl⟩ := hrel
    rcases (by omega : k = 0 ∨ k = 1 ∨ k = 2 ∨ k = 3) with rfl | rfl | rfl | rfl
    · have HC := Lib.hid (A.out wr HBl.out)
      cases oa with
      | some n =>
        go_wp2_with (go_at_call 117; refine HC.out.mono ?_; rintro e w2 ⟨x, rfl, hx, hb⟩; obtain rfl := hx n rfl; have HB2 := Lib.hid (HBl.out.trans (hb.mono HBl.out.size)); clear hb hx)
        go_ret2
        exact ⟨rfl, HB2.out⟩
      | none =>
        go_wp2_with (go_at_call 117; refine HC.out.mono ?_; rintro e w2 ⟨x, rfl, hx, hb⟩; have HB2 := Lib.hid (HBl.out.trans (hb.mono HBl.out.size)); clear hb hx)
        go_roundw
        case rel => exact ⟨1, by decide, by go_num, Lib.hid (fun _ => (by trivial)), Lib.hid (fun h => (by omega)), Lib.hid (fun h => (by omega)), HB2⟩
        case measure => simp [intOf]
    · have HC := Lib.hid (S_.out wr HBl.out)
      obtain rfl := E1.out (by decide)
      cases ob with
      | some n =>
        go_wp2_with (go_at_call 118; refine HC.out.mono ?_; rintro e w2 ⟨x, rfl, hx, hb⟩; obtain rfl := hx n rfl; have HB2 := Lib.hid (HBl.out.trans (hb.mono HBl.out.size)); clear hb hx)
        go_ret2
        exact ⟨rfl, HB2.out⟩
      | none =>
        go_wp2_with (go_at_call 118; refine HC.out.mono ?_; rintro e w2 ⟨x, rfl, hx, hb⟩; have HB2 := Lib.hid (HBl.out.trans (hb.mono HBl.out.size)); clear hb hx)
        go_roundw
        case rel => exact ⟨2, by decide, by go_num, Lib.hid (fun _ => (by trivial)), Lib.hid (fun _ => (by trivial)), Lib.hid (fun h => (by omega)), HB2⟩
        case measure => simp [intOf]
    · have HC := Lib.hid (H.out wr HBl.out)
      obtain rfl := E1.out (by decide)
      obtain rfl := E2.out (by decide)
      cases oc with
      | some n =>
        go_wp2_with (go_at_call 119; refine HC.out.mono ?_; rintro e w2 ⟨x, rfl, hx, hb⟩; obtain rfl := hx n rfl; have HB2 := Lib.hid (HBl.out.trans (hb.mono HBl.out.size)); clear hb hx)
        go_ret2
        exact ⟨rfl, HB2.out⟩
      | none =>
        go_wp2_with (go_at_call 119; refine HC.out.mono ?_; rintro e w2 ⟨x, rfl, hx, hb⟩; have HB2 := Lib.hid (HBl.out.trans (hb.mono HBl.out.size)); clear hb hx)
        go_roundw
        case rel => exact ⟨3, by decide, by go_num, Lib.hid (fun _ => (by trivial)), Lib.hid (fun _ => (by trivial)), Lib.hid (fun _ => (by trivial)), HB2⟩
        case measure => simp [intOf]
    · obtain rfl := E1.out (by decide)
      obtain rfl := E2.out (by decide)
      obtain rfl := E3.out (by decide)
      go_wp2
      go_ret2
      exact ⟨rfl, HBl.out⟩
set_option maxHeartbeats 4000000 in
set_option maxRecDepth 100000 in
theorem uns_64 (s : List UInt8) (hs : s.length ≤ 100) (w : World) (hL : Lw w) : Calls Tryz.prog 117 #[.int .i64 64, .string (bs s)] w (RP (rdB 10 18446744073709551615 s) w) := by
  have P := Lib.hid (PU10_64 s hs w hL)
  obtain ⟨f1, f2, f3⟩ := o10_facts 64 (by decide) s
  have HL := Lib.hid hL
  obtain ⟨O, eO⟩ : ∃ O, O = rdB 10 18446744073709551615 s := ⟨_, rfl⟩
  have f1 : ∀ u, o10 64 s = some u → (decide (Lib.decDigits u = s) = O.isSome) ∧ ∀ n, O = some n → u = n := by rw [eO]; exact f1
  have f2 : o10 64 s = none → O = none := by rw [eO]; exact f2
  rw [← eO]
  generalize o10 64 s = o1 at P f1 f2 f3
  have F1 := Lib.hid f1
  have F2 := Lib.hid f2
  have F3 := Lib.hid f3
  clear hL eO f1 f2 f3
  have hbq : ∀ l : List UInt8, ((bs l).toList == (bs s).toList) = decide (l = s) := fun l => by
    rw [bs_beq, Bool.eq_iff_iff]; simp
  have HBQ := Lib.hid hbq
  clear hbq
  go_enter Tryz.func117, Tryz.ntmps117
  go_wp2_with fail
  refine P.out.mono ?_
  rintro e w1 ⟨ho, hb⟩
  have HB := Lib.hid hb
  clear hb
  rcases ho with ⟨v, rfl, rfl⟩ | ⟨rfl, x, N, rfl⟩
  · have F := Lib.hid (FU10 v (F3.out v rfl) w1 (HL.out.below HB.out))
    obtain ⟨g1, g2⟩ := F1.out v rfl
    have hq := (HBQ.out (Lib.decDigits v)).trans g1
    have G2 := Lib.hid g2
    generalize bs (Lib.decDigits v) = X at F hq
    generalize hS : bs s = S at hq
    generalize hO : O.isSome = q at hq
    clear hS g1 g2 HBQ
    go_wp2_with (go_at_call 91; refine F.out.mono ?_; rintro e w2 ⟨rfl, hb⟩; have HB2 := Lib.hid (HB.out.trans (hb.mono HB.out.size)); clear hb)
    go_ret2
    exact ⟨v, by rw [hO]; rfl, fun n e => (by rw [G2.out n e]), HB2.out⟩
  · have hO := F2.out rfl
    subst hO
    go_wp2_with fail
    go_ret2
    exact ⟨x, rfl, fun n e => (by cases e), HB.out⟩
set_option maxHeartbeats 4000000 in
set_option maxRecDepth 100000 in
theorem sig_64 (s : List UInt8) (hs : s.length ≤ 100) (w : World) (hL : Lw w) : Calls Tryz.prog 118 #[.int .i64 64, .string (bs s)] w (RP (rdS 64 s) w) := by
  have P := Lib.hid (PI10_64 s hs w hL)
  obtain ⟨f1, f2⟩ := oI_facts 64 (by decide) s
  have HL := Lib.hid hL
  rw [show rdS 64 s = (rdI 64 s).map (fun v => Wd.cut 64 (wu v)) from rfl]
  obtain ⟨O, eO⟩ : ∃ O, O = rdI 64 s := ⟨_, rfl⟩
  rw [← eO] at f1 f2 ⊢
  obtain ⟨O2, eO2⟩ : ∃ O2, O2 = O.map (fun v => Wd.cut 64 (wu v)) := ⟨_, rfl⟩
  rw [← eO2]
  have EO2 := Lib.hid eO2
  generalize oI 64 s = o1 at P f1 f2
  have F1 := Lib.hid f1
  have F2 := Lib.hid f2
  clear hL eO eO2 f1 f2
  have hbq : ∀ l : List UInt8, ((bs l).toList == (bs s).toList) = decide (l = s) := fun l => by
    rw [bs_beq, Bool.eq_iff_iff]; simp
  have HBQ := Lib.hid hbq
  clear hbq
  go_enter Tryz.func118, Tryz.ntmps118
  go_wp2_with fail
  refine P.out.mono ?_
  rintro e w1 ⟨ho, hb⟩
  have HB := Lib.hid hb
  clear hb
  rcases ho with ⟨v, rfl, rfl⟩ | ⟨rfl, x, N, hx0, hx1, rfl⟩
  · obtain ⟨g1, g2, g3, g4⟩ := F1.out v rfl
    have hsg := sgn_wu64 v g3 g4
    obtain ⟨hw, hw2⟩ := wu_eq v
    have hc := Wd.cut_lt (n := 64) (by simp [Wd.ok]) hw2
    have hc2 : Wd.cut 64 (wu v) < 18446744073709551616 := Nat.lt_of_lt_of_le hc (Wd.md_le (by simp [Wd.ok]))
    have F := Print_ok 64 (Wd.cut 64 (wu v)) hc2 w1 (HL.out.below HB.out)
    rw [hsg] at F
    have C := Lib.hid (fun W : World => WCut_any 64 (wu v) W)
    have hq := (HBQ.out (Lib.itoa v)).trans g1
    have G2 := Lib.hid (show ∀ n : Nat, O2 = some n → ((Wd.cut 64 (wu v) : Nat) : Int) = n from fun n e => by
      rw [EO2.out] at e
      cases hO : O with
      | none => rw [hO] at e; cases e
      | some z =>
        rw [hO] at e
        injection e with e
        rw [← e, g2 z hO])
    have hO2 : O2.isSome = O.isSome := by rw [EO2.out]; cases O <;> rfl
    have FF := Lib.hid F
    rw [← hO2] at hq
    clear F g1 g2 g3 g4 hsg hc hc2 hO2
    generalize Wd.cut 64 (wu v) = c at FF C G2
    generalize bs (Lib.itoa v) = X at FF hq
    generalize hS : bs s = S at hq
    generalize hO : O2.isSome = q at hq
    clear hS HBQ F1 F2 EO2
    go_wp2_with (first
      | (go_at_call 130; refine (C.out _).mono ?_; rintro e w2 ⟨rfl, rfl⟩)
      | (go_at_call 64; refine FF.out.mono ?_; rintro e w2 ⟨rfl, hb⟩; have HB2 := Lib.hid (HB.out.trans (hb.mono HB.out.size)); clear hb))
    go_ret2
    exact ⟨c, by rw [hO]; rfl, G2.out, HB2.out⟩
  · have hO : O2 = none := by rw [EO2.out, F2.out rfl]; rfl
    subst hO
    obtain ⟨hw, hw2⟩ := wu_eq x
    have C := Lib.hid (fun W : World => WCut_any 64 (wu x) W)
    go_wp2_with (go_at_call 130; refine (C.out _).mono ?_; rintro e w2 ⟨rfl, rfl⟩)
    go_ret2
    exact ⟨_, rfl, fun n e => (by cases e), HB.out⟩
set_option maxHeartbeats 4000000 in
set_option maxRecDepth 100000 in
theorem hex_64 (s : List UInt8) (hs : s.length ≤ 100) (w : World) (hL : Lw w) : Calls Tryz.prog 119 #[.int .i64 64, .string (bs s)] w (RP (rdH 18446744073709551615 s) w) := by
  have hsz := bs_size s
  by_cases h2 : s.length < 2
  · have hO : rdH 18446744073709551615 s = none := by
      unfold rdH
      split
      · simp at h2; omega
      · rfl
    rw [hO]
    generalize bs s = S at hsz
    have h2' : (S.size : Int) < 2 := by omega
    clear hsz
    go_enter Tryz.func119, Tryz.ntmps119
    go_wp2
    go_ret2
    exact ⟨0, rfl, fun n e => (by cases e), Below.refl _ _⟩
  · have hex := ext_drop s 2
    have P := Lib.hid (PU16_64 (s.drop 2) (by rw [List.length_drop]; omega) w hL)
    obtain ⟨f1, f2⟩ := pu16 18446744073709551615 (by decide) (by decide) (s.drop 2)
    have HL := Lib.hid hL
    have f3 : ∀ u, puH 18446744073709551615 (s.drop 2) = some u → u ≤ 18446744073709551615 := fun u h => by
      unfold puH at h
      split at h
      · cases h
      · exact px_le _ _ _ _ (Nat.zero_le _) h
    have key : ∀ u, puH 18446744073709551615 (s.drop 2) = some u → (decide (48 :: 120 :: hexDigits u = s) = (rdH 18446744073709551615 s).isSome) ∧ ∀ n, rdH 18446744073709551615 s = some n → u = n := fun u hu => by
      obtain ⟨q1, q2⟩ := f1 u hu
      rcases s with _ | ⟨c, _ | ⟨d, t⟩⟩
      · simp at h2
      · simp at h2
      · by_cases q : c = 48 ∧ d = 120
        · obtain ⟨rfl, rfl⟩ := q
          rw [List.drop_succ_cons, List.drop_succ_cons, List.drop_zero] at q1 q2
          refine ⟨?_, q2⟩
          rw [show rdH 18446744073709551615 (48 :: 120 :: t) = rdB 16 18446744073709551615 t from rfl, ← q1]
          simp
        · have hN : rdH 18446744073709551615 (c :: d :: t) = none := by
            unfold rdH
            split
            · rename_i heq
              injection heq with e1 e2
              injection e2 with e2 _
              exact absurd ⟨e1, e2⟩ q
            · rfl
          rw [hN]
          refine ⟨?_, fun n e => by cases e⟩
          rw [Option.isSome_none, decide_eq_false_iff_not]
          intro e
          injection e with e1 e2
          injection e2 with e2 _
          exact q ⟨e1.symm, e2.symm⟩
    have keyN : puH 18446744073709551615 (s.drop 2) = none → rdH 18446744073709551615 s = none := fun h => by
      rcases s with _ | ⟨c, _ | ⟨d, t⟩⟩
      · rfl
      · simp at h2
      · unfold rdH
        split
        · rename_i heq
          injection heq with e1 e2
          injection e2 with e2 e3
          have := f2 h
          rw [List.drop_succ_cons, List.drop_succ_cons, List.drop_zero, e3] at this
          exact this
        · rfl
    rw [← hsz] at hex
    generalize bs (s.drop 2) = D at P hex
    generalize puH 18446744073709551615 (s.drop 2) = o1 at P key keyN f3
    have F1 := Lib.hid key
    have F2 := Lib.hid keyN
    have F3 := Lib.hid f3
    have hbq : ∀ l : List UInt8, ((bs l).toList == (bs s).toList) = decide (l = s) := fun l => by
      rw [bs_beq, Bool.eq_iff_iff]; simp
    have HBQ := Lib.hid hbq
    generalize rdH 18446744073709551615 s = O at F1 F2 ⊢
    generalize hS : bs s = S at hsz hex HBQ
    have h2' : ¬ (S.size : Int) < 2 := by omega
    have h2'' : 2 ≤ S.size := by omega
    have hS9 : S.size ≤ 100 := by omega
    clear hbq f1 f2 f3 key keyN hL hS h2 hsz hs
    go_enter Tryz.func119, Tryz.ntmps119
    go_wp2_with fail
    refine P.out.mono ?_
    rintro e w1 ⟨ho, hb⟩
    have HB := Lib.hid hb
    clear hb
    rcases ho with ⟨v, rfl, rfl⟩ | ⟨rfl, x, N, rfl⟩
    · have F := Lib.hid (Hex_ok v (Nat.lt_of_le_of_lt (F3.out v rfl) (by decide)) w1 (HL.out.below HB.out))
      obtain ⟨g1, g2⟩ := F1.out v rfl
      have hq := (HBQ.out (48 :: 120 :: hexDigits v)).trans g1
      have G2 := Lib.hid g2
      generalize bs (48 :: 120 :: hexDigits v) = X at F hq
      generalize hO : O.isSome = q at hq
      clear g1 g2 HBQ F1 F2
      go_wp2_with (go_at_call 139; refine F.out.mono ?_; rintro e w2 ⟨rfl, hb⟩; have HB2 := Lib.hid (HB.out.trans (hb.mono HB.out.size)); clear hb)
      go_ret2
      exact ⟨v, by rw [hO]; rfl, fun n e => (by rw [G2.out n e]), HB2.out⟩
    · have hO := F2.out rfl
      subst hO
      go_wp2_with fail
      go_ret2
      exact ⟨x, rfl, fun n e => (by cases e), HB.out⟩
set_option maxHeartbeats 4000000 in
set_option maxRecDepth 100000 in
theorem Parse_64 (s : List UInt8) (hs : s.length ≤ 20) (w : World) (hL : Lw w) : Calls Tryz.prog 83 #[.int .i64 64, .string (bs s)] w (PaP (pzf 64 18446744073709551615 s) w) := by
  have hsz := bs_size s
  have WY := Lib.hid (fun W : World => wide_yes 64 W (by simp [Wd.ok]))
  have A := Lib.hid (fun (W : World) (hb : Below w.heap.size w W) => uns_64 s (by omega) W (hL.below hb))
  have S_ := Lib.hid (fun (W : World) (hb : Below w.heap.size w W) => sig_64 s (by omega) W (hL.below hb))
  have H := Lib.hid (fun (W : World) (hb : Below w.heap.size w W) => hex_64 s (by omega) W (hL.below hb))
  unfold pzf
  generalize rdB 10 18446744073709551615 s = oa at A ⊢
  generalize rdS 64 s = ob at S_ ⊢
  generalize rdH 18446744073709551615 s = oc at H ⊢
  generalize bs s = S at A S_ H hsz
  have h20 : ¬ (20 : Int) < (S.size : Int) := by omega
  have hS9 : S.size ≤ 20 := by omega
  clear hL hsz hs
  have hix0 : ∀ W, (Instr.index 181 (.agg #[.func (.func 117) #[] #[], .func (.func 118) #[] #[], .func (.func 119) #[] #[]]) (.int .i64 0)).run Tryz.prog W = .ok (.func (.func 117) #[] #[]) W := fun W => idx70 W 0
  have hix1 : ∀ W, (Instr.index 181 (.agg #[.func (.func 117) #[] #[], .func (.func 118) #[] #[], .func (.func 119) #[] #[]]) (.int .i64 1)).run Tryz.prog W = .ok (.func (.func 118) #[] #[]) W := fun W => idx70 W 1
  have hix2 : ∀ W, (Instr.index 181 (.agg #[.func (.func 117) #[] #[], .func (.func 118) #[] #[], .func (.func 119) #[] #[]]) (.int .i64 2)).run Tryz.prog W = .ok (.func (.func 119) #[] #[]) W := fun W => idx70 W 2
  go_enter Tryz.func83, Tryz.ntmps83
  go_wp2_with (go_at_call 116; refine (WY.out _).mono ?_; rintro e w1 ⟨rfl, rfl⟩)
  go_loopw [17] (fun v17 wr => ∃ k : Nat, k ≤ 3 ∧ v17 = .int .i64 k ∧ Hid (1 ≤ k → oa = none) ∧ Hid (2 ≤ k → ob = none) ∧ Hid (3 ≤ k → oc = none) ∧ Hid (Below w.heap.size w wr)) (fun v17 _ => 3 - (intOf v17).toNat)
  case atStart => exact ⟨0, by decide, rfl, Lib.hid (fun h => by omega), Lib.hid (fun h => by omega), Lib.hid (fun h => by omega), Lib.hid (Below.refl _ _)⟩
  case round =>
    obtain ⟨k, hk, rfl, E1, E2, E3, HBl⟩ := hrel
    rcases (by omega : k = 0 ∨ k = 1 ∨ k = 2 ∨ k = 3) with rfl | rfl | rfl | rfl
    · have HC := Lib.hid (A.out wr HBl.out)
      cases oa with
      | some n =>
        go_wp2_with (go_at_call 117; refine HC.out.mono ?_; rintro e w2 ⟨x, rfl, hx, hb⟩; obtain rfl := hx n rfl; have HB2 := Lib.hid (HBl.out.trans (hb.mono HBl.out.size)); clear hb hx)
        go_ret2
        exact ⟨rfl, HB2.out⟩
      | none =>
        go_wp2_with (go_at_call 117; refine HC.out.mono ?_; rintro e w2 ⟨x, rfl, hx, hb⟩; have HB2 := Lib.hid (HBl.out.trans (hb.mono HBl.out.size)); clear hb hx)
        go_roundw
        case rel => exact ⟨1, by decide, by go_num, Lib.hid (fun _ => (by trivial)), Lib.hid (fun h => (by omega)), Lib.hid (fun h => (by omega)), HB2⟩
        case measure => simp [intOf]
    · have HC := Lib.hid (S_.out wr HBl.out)
      obtain rfl := E1.out (by decide)
      cases ob with
      | some n =>
        go_wp2_with (go_at_call 118; refine HC.out.mono ?_; rintro e w2 ⟨x, rfl, hx, hb⟩; obtain rfl := hx n rfl; have HB2 := Lib.hid (HBl.out.trans (hb.mono HBl.out.size)); clear hb hx)
        go_ret2
        exact ⟨rfl, HB2.out⟩
      | none =>
        go_wp2_with (go_at_call 118; refine HC.out.mono ?_; rintro e w2 ⟨x, rfl, hx, hb⟩; have HB2 := Lib.hid (HBl.out.trans (hb.mono HBl.out.size)); clear hb hx)
        go_roundw
        case rel => exact ⟨2, by decide, by go_num, Lib.hid (fun _ => (by trivial)), Lib.hid (fun _ => (by trivial)), Lib.hid (fun h => (by omega)), HB2⟩
        case measure => simp [intOf]
    · have HC := Lib.hid (H.out wr HBl.out)
      obtain rfl := E1.out (by decide)
      obtain rfl := E2.out (by decide)
      cases oc with
      | some n =>
        go_wp2_with (go_at_call 119; refine HC.out.mono ?_; rintro e w2 ⟨x, rfl, hx, hb⟩; obtain rfl := hx n rfl; have HB2 := Lib.hid (HBl.out.trans (hb.mono HBl.out.size)); clear hb hx)
        go_ret2
        exact ⟨rfl, HB2.out⟩
      | none =>
        go_wp2_with (go_at_call 119; refine HC.out.mono ?_; rintro e w2 ⟨x, rfl, hx, hb⟩; have HB2 := Lib.hid (HBl.out.trans (hb.mono HBl.out.size)); clear hb hx)
        go_roundw
        case rel => exact ⟨3, by decide, by go_num, Lib.hid (fun _ => (by trivial)), Lib.hid (fun _ => (by trivial)), Lib.hid (fun _ => (by trivial)), HB2⟩
        case measure => simp [intOf]
    · obtain rfl := E1.out (by decide)
      obtain rfl := E2.out (by decide)
      obtain rfl := E3.out (by decide)
      go_wp2
      go_ret2
      exact ⟨rfl, HBl.out⟩
end Go.Proofs.YtggfaalodojjkaaGreatDoor
namespace Go.Proofs.YtggfaalodojjkaaGreatDoor
open Go.RowKit
set_option linter.unusedVariables false
set_option linter.unusedSimpArgs false
/-- a slice of strings that can be read -/
def Ss (w : World) (A : Option Addr) (n c : Nat) (l : List (List UInt8)) : Prop :=
  l.length = n ∧ n ≤ c ∧ c ≤ maxLen ∧ (0 < n → ∃ g o, A = some ⟨g, o, none⟩ ∧ g < w.heap.size ∧ ∀ i, i < n → w.cell? ⟨g, o + i, none⟩ = some (Sv (l.getD i [])))
theorem Ss.below {w w' : World} {A : Option Addr} {n c : Nat} {l : List (List UInt8)} (h : Ss w A n c l) (hb : Below w.heap.size w w') : Ss w' A n c l := by
  obtain ⟨h1, h2, h3, h4⟩ := h
  refine ⟨h1, h2, h3, fun h0 => ?_⟩
  obtain ⟨g, o, e, hg, hc⟩ := h4 h0
  exact ⟨g, o, e, Nat.lt_of_lt_of_le hg hb.size, fun i hi => (hb.cell (p := ⟨g, o + i, none⟩) hg).trans (hc i hi)⟩
set_option maxHeartbeats 4000000 in
set_option maxRecDepth 100000 in
theorem num_some (bt : Int) (bw : Nat) (g o n c : Nat) (S : List UInt8) (O : Option Nat) (w : World) (hn : 0 < n) (hnc : n ≤ c) (hc : c ≤ 9223372036854775807) (hB : Blk w bw 73 #[.slice (some ⟨g, o, none⟩) n c]) (hS : w.cell? ⟨g, o, none⟩ = some (Sv S))
    (HP : Calls Tryz.prog 83 #[.int .i64 bt, .string (bs S)] w (PaP O w)) :
    Calls Tryz.prog 82 #[.int .i64 bt, .pointer (some ⟨bw, 0, none⟩)] w fun e w' => e = .returned (.int .u64 ((O.getD 0 : Nat) : Int)) ∧ ∃ A', Blk w' bw 73 #[.slice A' (n - 1) (c - 1)] ∧ (0 < n - 1 → A' = some ⟨g, o + 1, none⟩) ∧ Fr (· = bw) w w' := by
  have x0 : w.cell? ⟨bw, 0, none⟩ = some (.slice (some ⟨g, o, none⟩) n c) := hB.cell 0
  have x1 : w.cell? ⟨g, o, none⟩ = some (.string (bs S)) := hS
  have HBK := Lib.hid (fun V (hV : Below w.heap.size w V) => hB.below hV hB.lt)
  have H := Lib.hid HP
  have hn0 : ((n : Int) == 0) = false := by simp; omega
  unfold PaP at H
  generalize O.getD 0 = z at H ⊢
  generalize (if O.isSome = true then (0 : Int) else 4) = z2 at H
  clear hB hS HP
  have HQ := Lib.hid (fun (V : World) (hV : Below w.heap.size w V) (A' : Option Addr) (m k : Nat) => (And.intro ((HBK.out V hV).set_ 0 (.slice A' m k)) ((Fr.of_below (S := (· = bw)) hV).set_ (p := ⟨bw, 0, none⟩) rfl (.slice A' m k))))
  by_cases hc1 : c = 1
  · subst hc1
    obtain rfl : n = 1 := by omega
    go_enter Tryz.func82, Tryz.ntmps82
    go_wp2_with (go_at_call 83; (with_reducible refine H.out.mono ?_); rintro e w1 ⟨rfl, hb⟩; have HB := Lib.hid hb; have x2 : w1.cell? ⟨bw, 0, none⟩ = some (.slice (some ⟨g, o, none⟩) 1 1) := (HBK.out _ hb).cell 0; have x3 := (HBK.out _ hb).frozen 0; clear hb)
    go_ret
    obtain ⟨q1, q2⟩ := HQ.out w1 HB.out (some ⟨g, o, none⟩) 0 0
    exact ⟨rfl, _, q1, fun h => by omega, q2⟩
  · go_enter Tryz.func82, Tryz.ntmps82
    go_wp2_with (go_at_call 83; (with_reducible refine H.out.mono ?_); rintro e w1 ⟨rfl, hb⟩; have HB := Lib.hid hb; have x2 : w1.cell? ⟨bw, 0, none⟩ = some (.slice (some ⟨g, o, none⟩) n c) := (HBK.out _ hb).cell 0; have x3 := (HBK.out _ hb).frozen 0; clear hb)
    go_ret
    obtain ⟨q1, q2⟩ := HQ.out w1 HB.out (some ⟨g, o + 1, none⟩) (n - 1) (c - 1)
    exact ⟨rfl, _, q1, fun h => rfl, q2⟩
theorem num_none (bt : Int) (bw : Nat) (A : Option Addr) (c : Nat) (w : World) (h : w.cell? ⟨bw, 0, none⟩ = some (.slice A 0 c)) :
    Calls Tryz.prog 82 #[.int .i64 bt, .pointer (some ⟨bw, 0, none⟩)] w fun e w' => e = .returned (.int .u64 0) ∧ w = w' := by
  go_enter Tryz.func82, Tryz.ntmps82
  go_wp2
  go_ret
  exact ⟨rfl, rfl⟩
end Go.Proofs.YtggfaalodojjkaaGreatDoor
namespace Go.Proofs.YtggfaalodojjkaaGreatDoor
open Go.RowKit
set_option linter.unusedVariables false
set_option linter.unusedSimpArgs false
/-- words left to be read: k of n are read -/
def NI (w V : World) (bw n k g o : Nat) : Prop := ∃ A' c', Blk V bw 73 #[.slice A' (n - k) c'] ∧ n - k ≤ c' ∧ c' ≤ 9223372036854775807 ∧ (0 < n - k → A' = some ⟨g, o + k, none⟩) ∧ Below w.heap.size w V
def nvl (oz : List UInt8 → Option Nat) (l : List (List UInt8)) (k : Nat) : Nat := if k < l.length then (oz (l.getD k [])).getD 0 else 0
theorem num_any (bt : Int) (w V : World) (bw n k g o : Nat) (l : List (List UInt8)) (oz : List UInt8 → Option Nat) (hl : l.length = n) (hg : 0 < n → g < w.heap.size) (hbw : w.heap.size ≤ bw) (hc : ∀ i, i < n → w.cell? ⟨g, o + i, none⟩ = some (Sv (l.getD i [])))
    (HP : k < n → ∀ U, Below w.heap.size w U → Calls Tryz.prog 83 #[.int .i64 bt, .string (bs (l.getD k []))] U (PaP (oz (l.getD k [])) U)) (h : NI w V bw n k g o) :
    Calls Tryz.prog 82 #[.int .i64 bt, .pointer (some ⟨bw, 0, none⟩)] V fun e V' => e = .returned (.int .u64 ((nvl oz l k : Nat) : Int)) ∧ NI w V' bw n (k + 1) g o ∧ Fr (· = bw) V V' := by
  obtain ⟨A', c', hB, h1, h2, h3, h4⟩ := h
  by_cases hk : k < n
  · obtain rfl := h3 (by omega)
    have hx : V.cell? ⟨g, o + k, none⟩ = some (Sv (l.getD k [])) := (h4.cell (p := ⟨g, o + k, none⟩) (hg (by omega))).trans (hc k hk)
    refine (num_some bt bw g (o + k) (n - k) c' (l.getD k []) (oz (l.getD k [])) V (by omega) h1 h2 hB hx (HP hk V h4)).mono ?_
    rintro e V' ⟨rfl, A2, q1, q2, q3⟩
    refine ⟨by unfold nvl; rw [if_pos (by omega)], ⟨A2, c' - 1, ?_, by omega, by omega, fun h => ?_, ?_⟩, q3⟩
    · rw [show n - (k + 1) = n - k - 1 from by omega]; exact q1
    · rw [q2 (by omega)]; rfl
    · exact q3.below h4 h4.size (fun j hj => by omega)
  · have e : n - k = 0 := by omega
    rw [e] at hB
    refine (num_none bt bw A' c' V (hB.cell 0)).mono ?_
    rintro e w' ⟨rfl, rfl⟩
    refine ⟨by unfold nvl; rw [if_neg (by omega)]; rfl, ⟨A', c', ?_, by omega, h2, fun h => by omega, h4⟩, Fr.refl _ _⟩
    rw [show n - (k + 1) = 0 from by omega]; exact hB
def GuP (x : In) (w : World) (e : Ending) (w' : World) : Prop := ∃ A n c, e = .returned (.agg (I5 x (.slice A n c)).toArray) ∧ Sl w' A n c x.l ∧ Below w.heap.size w w' ∧ (∀ p, A = some p → w.heap.size ≤ p.block) ∧ ∀ p, A = some p → p.block < w'.heap.size
theorem results49 : Tryz.f49.results = #[.cell 4 30] := by kernel_rfl
theorem wpList_store30 {ops : Array Oper} {rest : List Oper} {o : Oper} {a : Act} {w : World} {Q : Exit → Act → World → Prop} (hgd : o.guard = none) (x y : Operand) (ho : o.op = .store 30 x y)
    (g : Nat) (old : Array Value) (c p q r : Int) (A : Option Addr) (n cp : Nat) (hx : a.eval x = .pointer (some ⟨g, 0, none⟩)) (hy : a.eval y = .agg #[.int .i64 c, .int .u64 p, .int .u64 q, .int .i64 r, .slice A n cp])
    (hg : Blk w g 30 old) (hold : Hid (old.size = 5))
    (h : wpList Tryz.prog ops Q rest (a.put o.dst undef) (w.setRow g #[.int .i64 c, .int .u64 p, .int .u64 q, .int .i64 r, .slice A n cp])) : wpList Tryz.prog ops Q (o :: rest) a w :=
  wpList_store_row hgd 30 x y ho g _ hx hy 30 old hg (by kernel_rfl) (by rw [hold.out]; rfl) (by simp [Value.oneCell']) h
theorem heap4 (w : World) (a b c d : Obj) : ((((w.alloc a).alloc b).alloc c).alloc d).heap[w.heap.size + 1 + 1 + 1]? = some d ∧ ((((w.alloc a).alloc b).alloc c).alloc d).heap[w.heap.size + 1 + 1]? = some c ∧ ((((w.alloc a).alloc b).alloc c).alloc d).heap[w.heap.size + 1]? = some b ∧ ((((w.alloc a).alloc b).alloc c).alloc d).heap[w.heap.size]? = some a := by
  have ha := heap_alloc_new w a
  have hb := heap_alloc_new (w.alloc a) b
  have hc := heap_alloc_new ((w.alloc a).alloc b) c
  have hd := heap_alloc_new (((w.alloc a).alloc b).alloc c) d
  have ea : (w.alloc a).heap.size = w.heap.size + 1 := by simp
  have eb : ((w.alloc a).alloc b).heap.size = w.heap.size + 1 + 1 := by simp
  have ec : (((w.alloc a).alloc b).alloc c).heap.size = w.heap.size + 1 + 1 + 1 := by simp
  rw [ea] at hb
  rw [eb] at hc
  rw [ec] at hd
  have k1 := (Fr.of_below (S := fun _ => False) (((((Below.refl (w.alloc a).heap.size (w.alloc a)).alloc (Nat.le_refl _) b).alloc (by simp) c).alloc (by simp) d)))
  have k2 := (Fr.of_below (S := fun _ => False) ((((Below.refl ((w.alloc a).alloc b).heap.size ((w.alloc a).alloc b)).alloc (Nat.le_refl _) c).alloc (by simp) d)))
  have k3 := (Fr.of_below (S := fun _ => False) (((Below.refl (((w.alloc a).alloc b).alloc c).heap.size (((w.alloc a).alloc b).alloc c)).alloc (Nat.le_refl _) d)))
  exact ⟨hd, k3.keep hc (fun h => h), k2.keep hb (fun h => h), k1.keep ha (fun h => h)⟩
set_option maxHeartbeats 4000000 in
set_option maxRecDepth 100000 in
theorem guess_0 (fi  : Int) (nm : ByteArray) (At Ag : Option Addr) (nt ct ng cg : Nat) (hnt : nt ≤ ct) (hct : ct ≤ 9223372036854775807) (hng : ng ≤ cg) (hcg : cg ≤ 9223372036854775807) (A : Option Addr) (n c : Nat) (l : List (List UInt8)) (oz : List UInt8 → Option Nat) (w : World) (hl : Ss w A n c l)
    (HP : ∀ k, k < n → ∀ U, Below w.heap.size w U → Calls Tryz.prog 83 #[.int .i64 64, .string (bs (l.getD k []))] U (PaP (oz (l.getD k [])) U))  :
    Calls Tryz.prog 49 #[.agg #[.int .i64 fi, .string nm, .int .i64 0, .slice At nt ct, .slice Ag ng cg], .slice A n c] w (GuP ⟨fi, 0, 0, 0, []⟩ w) := by
  obtain ⟨hln, hnc, hcm, hcl⟩ := hl
  unfold maxLen at hcm
  obtain ⟨g, o, hA, hg, hcc⟩ : ∃ g o, (0 < n → A = some ⟨g, o, none⟩) ∧ (0 < n → g < w.heap.size) ∧ ∀ i, i < n → w.cell? ⟨g, o + i, none⟩ = some (Sv (l.getD i [])) := by
    rcases Nat.eq_zero_or_pos n with h0 | h0
    · exact ⟨0, 0, fun h => by omega, fun h => by omega, fun i hi => by omega⟩
    · obtain ⟨g, o, e, h1, h2⟩ := hcl h0
      exact ⟨g, o, fun _ => e, fun _ => h1, h2⟩
  obtain ⟨W6, hW6⟩ : ∃ V, V = (((w.alloc (.cells #[.int .i64 fi, .string nm, .int .i64 0, .slice At nt ct, .slice Ag ng cg] 61)).alloc (.cells #[.slice A n c] 73)).alloc (.cells #[.int .i64 0, .int .u64 0, .int .u64 0, .int .i64 0, .slice none 0 0] 30)).alloc (.cells #[.int .i64 fi, .int .u64 0, .int .u64 0, .int .i64 0, .slice none 0 0] 30) := ⟨_, rfl⟩
  have hb6 : Below w.heap.size w W6 := by rw [hW6]; exact ((((Below.refl w.heap.size w).alloc (Nat.le_refl _) _).alloc (by simp) _).alloc (by simp; omega) _).alloc (by simp; omega) _
  obtain ⟨g3, g2, g1, g0⟩ := heap4 w (.cells #[.int .i64 fi, .string nm, .int .i64 0, .slice At nt ct, .slice Ag ng cg] 61) (.cells #[.slice A n c] 73) (.cells #[.int .i64 0, .int .u64 0, .int .u64 0, .int .i64 0, .slice none 0 0] 30) (.cells #[.int .i64 fi, .int .u64 0, .int .u64 0, .int .i64 0, .slice none 0 0] 30)
  rw [← hW6] at g3 g2 g1 g0
  obtain ⟨bw, hbw⟩ : ∃ x, x = w.heap.size + 1 := ⟨_, rfl⟩
  obtain ⟨b4, hb4⟩ : ∃ x, x = w.heap.size + 1 + 1 := ⟨_, rfl⟩
  obtain ⟨b6, hb66⟩ : ∃ x, x = w.heap.size + 1 + 1 + 1 := ⟨_, rfl⟩
  rw [← hb66] at g3
  rw [← hb4] at g2
  rw [← hbw] at g1
  have e1 : ¬ b6 = bw := by omega
  have e2 : ¬ b4 = bw := by omega
  have e3 : ¬ b4 = b6 := by omega
  have e4 : w.heap.size ≤ b6 := by omega
  have e5 : w.heap.size ≤ b4 := by omega
  have HBW := Lib.hid hbw
  have HB4 := Lib.hid hb4
  have HBB6 := Lib.hid hb66
  have HNI : Hid (NI w W6 bw n 0 g o) := Lib.hid ⟨A, c, g1, by omega, hcm, fun h => by rw [hA (by omega)]; rfl, hb6⟩
  have HNu := Lib.hid (fun k V (h : NI w V bw n k g o) => num_any 64 w V bw n k g o l oz hln hg (by omega) hcc (HP k) h)
  have HX : Hid (Blk W6 b6 30 #[.int .i64 fi, .int .u64 0, .int .u64 0, .int .i64 0, .slice none 0 0]) := Lib.hid g3
  have HR : Hid (Blk W6 b4 30 #[.int .i64 0, .int .u64 0, .int .u64 0, .int .i64 0, .slice none 0 0]) := Lib.hid g2
  have HW6 := Lib.hid hW6
  have HB6 := Lib.hid hb6
  have c2 : W6.cell? ⟨w.heap.size, 2, none⟩ = some (.int .i64 0) := by
    have : Blk W6 w.heap.size 61 #[.int .i64 fi, .string nm, .int .i64 0, .slice At nt ct, .slice Ag ng cg] := g0
    exact this.cell 2
  clear hbw hb4 hb66 hW6 hb6 g3 g2 g1 g0 HP hcc hcl hA hg hln
  go_enter Tryz.func49, Tryz.ntmps49
  go_upto_region 3 with fail
  rw [← HBB6.out, ← HB4.out, ← HBW.out]
  rw [← HW6.out]
  have HXB := HX
  have HRB := HR
  have HBV := HB6
  go_upto_region 19 with fail
  obtain ⟨W9, hW9⟩ : ∃ U, U = W6 := ⟨_, rfl⟩
  rw [← hW9]
  have xe : Blk W9 b6 30 #[.int .i64 fi, .int .u64 0, .int .u64 0, .int .i64 0, .slice none 0 0] := by rw [hW9]; exact HXB.out
  have re : Blk W9 b4 30 #[.int .i64 0, .int .u64 0, .int .u64 0, .int .i64 0, .slice none 0 0] := by rw [hW9]; exact HRB.out
  have bl : Below w.heap.size w W9 := by rw [hW9]; exact HBV.out
  have y0 : W9.cell? ⟨b6, 0, none⟩ = some (.int .i64 fi) := xe.cell 0
  have y1 : W9.cell? ⟨b6, 1, none⟩ = some (.int .u64 0) := xe.cell 1
  have y2 : W9.cell? ⟨b6, 2, none⟩ = some (.int .u64 0) := xe.cell 2
  have y3 : W9.cell? ⟨b6, 3, none⟩ = some (.int .i64 0) := xe.cell 3
  have y4 : W9.cell? ⟨b6, 4, none⟩ = some (.slice none 0 0) := xe.cell 4
  have HRE := Lib.hid re
  have HBL := Lib.hid bl
  clear xe re bl hW9
  go_wp2_with (refine wpList_store30 rfl (.tmp 4) (.tmp 66) rfl b4 _ _ _ _ _ _ _ _ rfl rfl HRE.out (Lib.hid rfl) ?_)
  refine bodyPost_ret (v := .agg #[.int .i64 fi, .int .u64 0, .int .u64 0, .int .i64 0, .slice none 0 0]) (results_cell_row results49 _ _ b4 30 _ (0, 0) _ rfl (setRow_heap _ b4 _ _ 30 (0, 0) HRE.out) Tryz.underlying30 rfl (by kernel_rfl)) rfl ?_
  exact ⟨none, 0, 0, by first | rfl | skip, ⟨rfl, Nat.le_refl _, by unfold maxLen; omega, fun h => by omega⟩, below_setRow HBL.out e5 _, (fun p h => by cases h), (fun p h => by cases h)⟩
set_option maxHeartbeats 4000000 in
set_option maxRecDepth 100000 in
theorem guess_5 (fi  : Int) (nm : ByteArray) (At Ag : Option Addr) (nt ct ng cg : Nat) (hnt : nt ≤ ct) (hct : ct ≤ 9223372036854775807) (hng : ng ≤ cg) (hcg : cg ≤ 9223372036854775807) (A : Option Addr) (n c : Nat) (l : List (List UInt8)) (oz : List UInt8 → Option Nat) (w : World) (hl : Ss w A n c l)
    (HP : ∀ k, k < n → ∀ U, Below w.heap.size w U → Calls Tryz.prog 83 #[.int .i64 64, .string (bs (l.getD k []))] U (PaP (oz (l.getD k [])) U))  :
    Calls Tryz.prog 49 #[.agg #[.int .i64 fi, .string nm, .int .i64 5, .slice At nt ct, .slice Ag ng cg], .slice A n c] w (GuP ⟨fi, ((nvl oz l 0 : Nat) : Int), ((nvl oz l 1 : Nat) : Int), 0, []⟩ w) := by
  obtain ⟨hln, hnc, hcm, hcl⟩ := hl
  unfold maxLen at hcm
  obtain ⟨g, o, hA, hg, hcc⟩ : ∃ g o, (0 < n → A = some ⟨g, o, none⟩) ∧ (0 < n → g < w.heap.size) ∧ ∀ i, i < n → w.cell? ⟨g, o + i, none⟩ = some (Sv (l.getD i [])) := by
    rcases Nat.eq_zero_or_pos n with h0 | h0
    · exact ⟨0, 0, fun h => by omega, fun h => by omega, fun i hi => by omega⟩
    · obtain ⟨g, o, e, h1, h2⟩ := hcl h0
      exact ⟨g, o, fun _ => e, fun _ => h1, h2⟩
  obtain ⟨W6, hW6⟩ : ∃ V, V = (((w.alloc (.cells #[.int .i64 fi, .string nm, .int .i64 5, .slice At nt ct, .slice Ag ng cg] 61)).alloc (.cells #[.slice A n c] 73)).alloc (.cells #[.int .i64 0, .int .u64 0, .int .u64 0, .int .i64 0, .slice none 0 0] 30)).alloc (.cells #[.int .i64 fi, .int .u64 0, .int .u64 0, .int .i64 0, .slice none 0 0] 30) := ⟨_, rfl⟩
  have hb6 : Below w.heap.size w W6 := by rw [hW6]; exact ((((Below.refl w.heap.size w).alloc (Nat.le_refl _) _).alloc (by simp) _).alloc (by simp; omega) _).alloc (by simp; omega) _
  obtain ⟨g3, g2, g1, g0⟩ := heap4 w (.cells #[.int .i64 fi, .string nm, .int .i64 5, .slice At nt ct, .slice Ag ng cg] 61) (.cells #[.slice A n c] 73) (.cells #[.int .i64 0, .int .u64 0, .int .u64 0, .int .i64 0, .slice none 0 0] 30) (.cells #[.int .i64 fi, .int .u64 0, .int .u64 0, .int .i64 0, .slice none 0 0] 30)
  rw [← hW6] at g3 g2 g1 g0
  obtain ⟨bw, hbw⟩ : ∃ x, x = w.heap.size + 1 := ⟨_, rfl⟩
  obtain ⟨b4, hb4⟩ : ∃ x, x = w.heap.size + 1 + 1 := ⟨_, rfl⟩
  obtain ⟨b6, hb66⟩ : ∃ x, x = w.heap.size + 1 + 1 + 1 := ⟨_, rfl⟩
  rw [← hb66] at g3
  rw [← hb4] at g2
  rw [← hbw] at g1
  have e1 : ¬ b6 = bw := by omega
  have e2 : ¬ b4 = bw := by omega
  have e3 : ¬ b4 = b6 := by omega
  have e4 : w.heap.size ≤ b6 := by omega
  have e5 : w.heap.size ≤ b4 := by omega
  have HBW := Lib.hid hbw
  have HB4 := Lib.hid hb4
  have HBB6 := Lib.hid hb66
  have HNI : Hid (NI w W6 bw n 0 g o) := Lib.hid ⟨A, c, g1, by omega, hcm, fun h => by rw [hA (by omega)]; rfl, hb6⟩
  have HNu := Lib.hid (fun k V (h : NI w V bw n k g o) => num_any 64 w V bw n k g o l oz hln hg (by omega) hcc (HP k) h)
  have HX : Hid (Blk W6 b6 30 #[.int .i64 fi, .int .u64 0, .int .u64 0, .int .i64 0, .slice none 0 0]) := Lib.hid g3
  have HR : Hid (Blk W6 b4 30 #[.int .i64 0, .int .u64 0, .int .u64 0, .int .i64 0, .slice none 0 0]) := Lib.hid g2
  have HW6 := Lib.hid hW6
  have HB6 := Lib.hid hb6
  have c2 : W6.cell? ⟨w.heap.size, 2, none⟩ = some (.int .i64 5) := by
    have : Blk W6 w.heap.size 61 #[.int .i64 fi, .string nm, .int .i64 5, .slice At nt ct, .slice Ag ng cg] := g0
    exact this.cell 2
  clear hbw hb4 hb66 hW6 hb6 g3 g2 g1 g0 HP hcc hcl hA hg hln
  obtain ⟨z0, hz0⟩ : ∃ z, z = nvl oz l 0 := ⟨_, rfl⟩
  obtain ⟨z1, hz1⟩ : ∃ z, z = nvl oz l 1 := ⟨_, rfl⟩
  rw [← hz0]
  rw [← hz1]
  have HZ0 := Lib.hid hz0
  clear hz0
  have HZ1 := Lib.hid hz1
  clear hz1
  go_enter Tryz.func49, Tryz.ntmps49
  go_upto_region 3 with fail
  rw [← HBB6.out, ← HB4.out, ← HBW.out]
  rw [← HW6.out]
  go_wp2_with fail
  refine (HNu.out 0 _ HNI.out).mono ?_
  rintro e V0 ⟨rfl, ni0, fr0⟩
  rw [← HZ0.out]
  have HNI0 := Lib.hid ni0
  have HFR0 := Lib.hid fr0
  clear ni0 fr0
  have HF0 := HFR0
  go_wp2_with fail
  refine (HNu.out 1 _ HNI0.out).mono ?_
  rintro e V1 ⟨rfl, ni1, fr1⟩
  rw [← HZ1.out]
  have HNI1 := Lib.hid ni1
  have HFR1 := Lib.hid fr1
  clear ni1 fr1
  have HF1 := Lib.hid (HF0.out.trans HFR1.out)
  have xb := HF1.out.keep HX.out e1
  have rb := HF1.out.keep HR.out e2
  have xb : Blk V1 b6 30 #[.int .i64 fi, .int .u64 0, .int .u64 0, .int .i64 0, .slice none 0 0] := xb
  have rb : Blk V1 b4 30 #[.int .i64 0, .int .u64 0, .int .u64 0, .int .i64 0, .slice none 0 0] := rb
  have HXB := Lib.hid xb
  have HRB := Lib.hid rb
  have HBV : Hid (Below w.heap.size w V1) := Lib.hid (by obtain ⟨_, _, _, _, _, _, h⟩ := HNI1.out; exact h)
  clear xb rb
  have u0 : V1.cell? ⟨b6, 1, none⟩ = some (.int .u64 0) := (HXB.out).cell 1
  have v0 : V1.frozen? ⟨b6, 1, none⟩ = false := (HXB.out).frozen 1
  have u1 : (V1.setCell ⟨b6, 1, none⟩ (.int .u64 (z0 : Nat))).cell? ⟨b6, 2, none⟩ = some (.int .u64 0) := ((HXB.out.set_ 1 (.int .u64 (z0 : Nat)))).cell 2
  have v1 : (V1.setCell ⟨b6, 1, none⟩ (.int .u64 (z0 : Nat))).frozen? ⟨b6, 2, none⟩ = false := ((HXB.out.set_ 1 (.int .u64 (z0 : Nat)))).frozen 2
  go_upto_region 19 with fail
  obtain ⟨W9, hW9⟩ : ∃ U, U = ((V1.setCell ⟨b6, 1, none⟩ (.int .u64 (z0 : Nat))).setCell ⟨b6, 2, none⟩ (.int .u64 (z1 : Nat))) := ⟨_, rfl⟩
  rw [← hW9]
  have xe : Blk W9 b6 30 #[.int .i64 fi, .int .u64 (z0 : Nat), .int .u64 (z1 : Nat), .int .i64 0, .slice none 0 0] := by rw [hW9]; exact ((HXB.out.set_ 1 (.int .u64 (z0 : Nat))).set_ 2 (.int .u64 (z1 : Nat)))
  have re : Blk W9 b4 30 #[.int .i64 0, .int .u64 0, .int .u64 0, .int .i64 0, .slice none 0 0] := by rw [hW9]; exact ((HRB.out.far (p := ⟨b6, 1, none⟩) e3 (.int .u64 (z0 : Nat))).far (p := ⟨b6, 2, none⟩) e3 (.int .u64 (z1 : Nat)))
  have bl : Below w.heap.size w W9 := by rw [hW9]; exact ((HBV.out.setCell e4 (.int .u64 (z0 : Nat))).setCell e4 (.int .u64 (z1 : Nat)))
  have y0 : W9.cell? ⟨b6, 0, none⟩ = some (.int .i64 fi) := xe.cell 0
  have y1 : W9.cell? ⟨b6, 1, none⟩ = some (.int .u64 (z0 : Nat)) := xe.cell 1
  have y2 : W9.cell? ⟨b6, 2, none⟩ = some (.int .u64 (z1 : Nat)) := xe.cell 2
  have y3 : W9.cell? ⟨b6, 3, none⟩ = some (.int .i64 0) := xe.cell 3
  have y4 : W9.cell? ⟨b6, 4, none⟩ = some (.slice none 0 0) := xe.cell 4
  have HRE := Lib.hid re
  have HBL := Lib.hid bl
  clear xe re bl hW9
  go_wp2_with (refine wpList_store30 rfl (.tmp 4) (.tmp 66) rfl b4 _ _ _ _ _ _ _ _ rfl rfl HRE.out (Lib.hid rfl) ?_)
  refine bodyPost_ret (v := .agg #[.int .i64 fi, .int .u64 (z0 : Nat), .int .u64 (z1 : Nat), .int .i64 0, .slice none 0 0]) (results_cell_row results49 _ _ b4 30 _ (0, 0) _ rfl (setRow_heap _ b4 _ _ 30 (0, 0) HRE.out) Tryz.underlying30 rfl (by kernel_rfl)) rfl ?_
  exact ⟨none, 0, 0, by first | rfl | skip, ⟨rfl, Nat.le_refl _, by unfold maxLen; omega, fun h => by omega⟩, below_setRow HBL.out e5 _, (fun p h => by cases h), (fun p h => by cases h)⟩
set_option maxHeartbeats 4000000 in
set_option maxRecDepth 100000 in
theorem guess_10 (fi  : Int) (nm : ByteArray) (At Ag : Option Addr) (nt ct ng cg : Nat) (hnt : nt ≤ ct) (hct : ct ≤ 9223372036854775807) (hng : ng ≤ cg) (hcg : cg ≤ 9223372036854775807) (A : Option Addr) (n c : Nat) (l : List (List UInt8)) (oz : List UInt8 → Option Nat) (w : World) (hl : Ss w A n c l)
    (HP : ∀ k, k < n → ∀ U, Below w.heap.size w U → Calls Tryz.prog 83 #[.int .i64 64, .string (bs (l.getD k []))] U (PaP (oz (l.getD k [])) U))  :
    Calls Tryz.prog 49 #[.agg #[.int .i64 fi, .string nm, .int .i64 10, .slice At nt ct, .slice Ag ng cg], .slice A n c] w (GuP ⟨fi, ((nvl oz l 0 : Nat) : Int), ((nvl oz l 1 : Nat) : Int), 0, []⟩ w) := by
  obtain ⟨hln, hnc, hcm, hcl⟩ := hl
  unfold maxLen at hcm
  obtain ⟨g, o, hA, hg, hcc⟩ : ∃ g o, (0 < n → A = some ⟨g, o, none⟩) ∧ (0 < n → g < w.heap.size) ∧ ∀ i, i < n → w.cell? ⟨g, o + i, none⟩ = some (Sv (l.getD i [])) := by
    rcases Nat.eq_zero_or_pos n with h0 | h0
    · exact ⟨0, 0, fun h => by omega, fun h => by omega, fun i hi => by omega⟩
    · obtain ⟨g, o, e, h1, h2⟩ := hcl h0
      exact ⟨g, o, fun _ => e, fun _ => h1, h2⟩
  obtain ⟨W6, hW6⟩ : ∃ V, V = (((w.alloc (.cells #[.int .i64 fi, .string nm, .int .i64 10, .slice At nt ct, .slice Ag ng cg] 61)).alloc (.cells #[.slice A n c] 73)).alloc (.cells #[.int .i64 0, .int .u64 0, .int .u64 0, .int .i64 0, .slice none 0 0] 30)).alloc (.cells #[.int .i64 fi, .int .u64 0, .int .u64 0, .int .i64 0, .slice none 0 0] 30) := ⟨_, rfl⟩
  have hb6 : Below w.heap.size w W6 := by rw [hW6]; exact ((((Below.refl w.heap.size w).alloc (Nat.le_refl _) _).alloc (by simp) _).alloc (by simp; omega) _).alloc (by simp; omega) _
  obtain ⟨g3, g2, g1, g0⟩ := heap4 w (.cells #[.int .i64 fi, .string nm, .int .i64 10, .slice At nt ct, .slice Ag ng cg] 61) (.cells #[.slice A n c] 73) (.cells #[.int .i64 0, .int .u64 0, .int .u64 0, .int .i64 0, .slice none 0 0] 30) (.cells #[.int .i64 fi, .int .u64 0, .int .u64 0, .int .i64 0, .slice none 0 0] 30)
  rw [← hW6] at g3 g2 g1 g0
  obtain ⟨bw, hbw⟩ : ∃ x, x = w.heap.size + 1 := ⟨_, rfl⟩
  obtain ⟨b4, hb4⟩ : ∃ x, x = w.heap.size + 1 + 1 := ⟨_, rfl⟩
  obtain ⟨b6, hb66⟩ : ∃ x, x = w.heap.size + 1 + 1 + 1 := ⟨_, rfl⟩
  rw [← hb66] at g3
  rw [← hb4] at g2
  rw [← hbw] at g1
  have e1 : ¬ b6 = bw := by omega
  have e2 : ¬ b4 = bw := by omega
  have e3 : ¬ b4 = b6 := by omega
  have e4 : w.heap.size ≤ b6 := by omega
  have e5 : w.heap.size ≤ b4 := by omega
  have HBW := Lib.hid hbw
  have HB4 := Lib.hid hb4
  have HBB6 := Lib.hid hb66
  have HNI : Hid (NI w W6 bw n 0 g o) := Lib.hid ⟨A, c, g1, by omega, hcm, fun h => by rw [hA (by omega)]; rfl, hb6⟩
  have HNu := Lib.hid (fun k V (h : NI w V bw n k g o) => num_any 64 w V bw n k g o l oz hln hg (by omega) hcc (HP k) h)
  have HX : Hid (Blk W6 b6 30 #[.int .i64 fi, .int .u64 0, .int .u64 0, .int .i64 0, .slice none 0 0]) := Lib.hid g3
  have HR : Hid (Blk W6 b4 30 #[.int .i64 0, .int .u64 0, .int .u64 0, .int .i64 0, .slice none 0 0]) := Lib.hid g2
  have HW6 := Lib.hid hW6
  have HB6 := Lib.hid hb6
  have c2 : W6.cell? ⟨w.heap.size, 2, none⟩ = some (.int .i64 10) := by
    have : Blk W6 w.heap.size 61 #[.int .i64 fi, .string nm, .int .i64 10, .slice At nt ct, .slice Ag ng cg] := g0
    exact this.cell 2
  clear hbw hb4 hb66 hW6 hb6 g3 g2 g1 g0 HP hcc hcl hA hg hln
  obtain ⟨z0, hz0⟩ : ∃ z, z = nvl oz l 0 := ⟨_, rfl⟩
  obtain ⟨z1, hz1⟩ : ∃ z, z = nvl oz l 1 := ⟨_, rfl⟩
  rw [← hz0]
  rw [← hz1]
  have HZ0 := Lib.hid hz0
  clear hz0
  have HZ1 := Lib.hid hz1
  clear hz1
  go_enter Tryz.func49, Tryz.ntmps49
  go_upto_region 3 with fail
  rw [← HBB6.out, ← HB4.out, ← HBW.out]
  rw [← HW6.out]
  go_wp2_with fail
  refine (HNu.out 0 _ HNI.out).mono ?_
  rintro e V0 ⟨rfl, ni0, fr0⟩
  rw [← HZ0.out]
  have HNI0 := Lib.hid ni0
  have HFR0 := Lib.hid fr0
  clear ni0 fr0
  have HF0 := HFR0
  go_wp2_with fail
  refine (HNu.out 1 _ HNI0.out).mono ?_
  rintro e V1 ⟨rfl, ni1, fr1⟩
  rw [← HZ1.out]
  have HNI1 := Lib.hid ni1
  have HFR1 := Lib.hid fr1
  clear ni1 fr1
  have HF1 := Lib.hid (HF0.out.trans HFR1.out)
  have xb := HF1.out.keep HX.out e1
  have rb := HF1.out.keep HR.out e2
  have xb : Blk V1 b6 30 #[.int .i64 fi, .int .u64 0, .int .u64 0, .int .i64 0, .slice none 0 0] := xb
  have rb : Blk V1 b4 30 #[.int .i64 0, .int .u64 0, .int .u64 0, .int .i64 0, .slice none 0 0] := rb
  have HXB := Lib.hid xb
  have HRB := Lib.hid rb
  have HBV : Hid (Below w.heap.size w V1) := Lib.hid (by obtain ⟨_, _, _, _, _, _, h⟩ := HNI1.out; exact h)
  clear xb rb
  have u0 : V1.cell? ⟨b6, 1, none⟩ = some (.int .u64 0) := (HXB.out).cell 1
  have v0 : V1.frozen? ⟨b6, 1, none⟩ = false := (HXB.out).frozen 1
  have u1 : (V1.setCell ⟨b6, 1, none⟩ (.int .u64 (z0 : Nat))).cell? ⟨b6, 2, none⟩ = some (.int .u64 0) := ((HXB.out.set_ 1 (.int .u64 (z0 : Nat)))).cell 2
  have v1 : (V1.setCell ⟨b6, 1, none⟩ (.int .u64 (z0 : Nat))).frozen? ⟨b6, 2, none⟩ = false := ((HXB.out.set_ 1 (.int .u64 (z0 : Nat)))).frozen 2
  go_upto_region 19 with fail
  obtain ⟨W9, hW9⟩ : ∃ U, U = ((V1.setCell ⟨b6, 1, none⟩ (.int .u64 (z0 : Nat))).setCell ⟨b6, 2, none⟩ (.int .u64 (z1 : Nat))) := ⟨_, rfl⟩
  rw [← hW9]
  have xe : Blk W9 b6 30 #[.int .i64 fi, .int .u64 (z0 : Nat), .int .u64 (z1 : Nat), .int .i64 0, .slice none 0 0] := by rw [hW9]; exact ((HXB.out.set_ 1 (.int .u64 (z0 : Nat))).set_ 2 (.int .u64 (z1 : Nat)))
  have re : Blk W9 b4 30 #[.int .i64 0, .int .u64 0, .int .u64 0, .int .i64 0, .slice none 0 0] := by rw [hW9]; exact ((HRB.out.far (p := ⟨b6, 1, none⟩) e3 (.int .u64 (z0 : Nat))).far (p := ⟨b6, 2, none⟩) e3 (.int .u64 (z1 : Nat)))
  have bl : Below w.heap.size w W9 := by rw [hW9]; exact ((HBV.out.setCell e4 (.int .u64 (z0 : Nat))).setCell e4 (.int .u64 (z1 : Nat)))
  have y0 : W9.cell? ⟨b6, 0, none⟩ = some (.int .i64 fi) := xe.cell 0
  have y1 : W9.cell? ⟨b6, 1, none⟩ = some (.int .u64 (z0 : Nat)) := xe.cell 1
  have y2 : W9.cell? ⟨b6, 2, none⟩ = some (.int .u64 (z1 : Nat)) := xe.cell 2
  have y3 : W9.cell? ⟨b6, 3, none⟩ = some (.int .i64 0) := xe.cell 3
  have y4 : W9.cell? ⟨b6, 4, none⟩ = some (.slice none 0 0) := xe.cell 4
  have HRE := Lib.hid re
  have HBL := Lib.hid bl
  clear xe re bl hW9
  go_wp2_with (refine wpList_store30 rfl (.tmp 4) (.tmp 66) rfl b4 _ _ _ _ _ _ _ _ rfl rfl HRE.out (Lib.hid rfl) ?_)
  refine bodyPost_ret (v := .agg #[.int .i64 fi, .int .u64 (z0 : Nat), .int .u64 (z1 : Nat), .int .i64 0, .slice none 0 0]) (results_cell_row results49 _ _ b4 30 _ (0, 0) _ rfl (setRow_heap _ b4 _ _ 30 (0, 0) HRE.out) Tryz.underlying30 rfl (by kernel_rfl)) rfl ?_
  exact ⟨none, 0, 0, by first | rfl | skip, ⟨rfl, Nat.le_refl _, by unfold maxLen; omega, fun h => by omega⟩, below_setRow HBL.out e5 _, (fun p h => by cases h), (fun p h => by cases h)⟩
set_option maxHeartbeats 4000000 in
set_option maxRecDepth 100000 in
theorem guess_8 (fi  : Int) (nm : ByteArray) (At Ag : Option Addr) (nt ct ng cg : Nat) (hnt : nt ≤ ct) (hct : ct ≤ 9223372036854775807) (hng : ng ≤ cg) (hcg : cg ≤ 9223372036854775807) (A : Option Addr) (n c : Nat) (l : List (List UInt8)) (oz : List UInt8 → Option Nat) (w : World) (hl : Ss w A n c l)
    (HP : ∀ k, k < n → ∀ U, Below w.heap.size w U → Calls Tryz.prog 83 #[.int .i64 64, .string (bs (l.getD k []))] U (PaP (oz (l.getD k [])) U))  :
    Calls Tryz.prog 49 #[.agg #[.int .i64 fi, .string nm, .int .i64 8, .slice At nt ct, .slice Ag ng cg], .slice A n c] w (GuP ⟨fi, ((nvl oz l 0 : Nat) : Int), ((nvl oz l 1 : Nat) : Int), (wrap64 ((nvl oz l 2 : Nat) : Int)), []⟩ w) := by
  obtain ⟨hln, hnc, hcm, hcl⟩ := hl
  unfold maxLen at hcm
  obtain ⟨g, o, hA, hg, hcc⟩ : ∃ g o, (0 < n → A = some ⟨g, o, none⟩) ∧ (0 < n → g < w.heap.size) ∧ ∀ i, i < n → w.cell? ⟨g, o + i, none⟩ = some (Sv (l.getD i [])) := by
    rcases Nat.eq_zero_or_pos n with h0 | h0
    · exact ⟨0, 0, fun h => by omega, fun h => by omega, fun i hi => by omega⟩
    · obtain ⟨g, o, e, h1, h2⟩ := hcl h0
      exact ⟨g, o, fun _ => e, fun _ => h1, h2⟩
  obtain ⟨W6, hW6⟩ : ∃ V, V = (((w.alloc (.cells #[.int .i64 fi, .string nm, .int .i64 8, .slice At nt ct, .slice Ag ng cg] 61)).alloc (.cells #[.slice A n c] 73)).alloc (.cells #[.int .i64 0, .int .u64 0, .int .u64 0, .int .i64 0, .slice none 0 0] 30)).alloc (.cells #[.int .i64 fi, .int .u64 0, .int .u64 0, .int .i64 0, .slice none 0 0] 30) := ⟨_, rfl⟩
  have hb6 : Below w.heap.size w W6 := by rw [hW6]; exact ((((Below.refl w.heap.size w).alloc (Nat.le_refl _) _).alloc (by simp) _).alloc (by simp; omega) _).alloc (by simp; omega) _
  obtain ⟨g3, g2, g1, g0⟩ := heap4 w (.cells #[.int .i64 fi, .string nm, .int .i64 8, .slice At nt ct, .slice Ag ng cg] 61) (.cells #[.slice A n c] 73) (.cells #[.int .i64 0, .int .u64 0, .int .u64 0, .int .i64 0, .slice none 0 0] 30) (.cells #[.int .i64 fi, .int .u64 0, .int .u64 0, .int .i64 0, .slice none 0 0] 30)
  rw [← hW6] at g3 g2 g1 g0
  obtain ⟨bw, hbw⟩ : ∃ x, x = w.heap.size + 1 := ⟨_, rfl⟩
  obtain ⟨b4, hb4⟩ : ∃ x, x = w.heap.size + 1 + 1 := ⟨_, rfl⟩
  obtain ⟨b6, hb66⟩ : ∃ x, x = w.heap.size + 1 + 1 + 1 := ⟨_, rfl⟩
  rw [← hb66] at g3
  rw [← hb4] at g2
  rw [← hbw] at g1
  have e1 : ¬ b6 = bw := by omega
  have e2 : ¬ b4 = bw := by omega
  have e3 : ¬ b4 = b6 := by omega
  have e4 : w.heap.size ≤ b6 := by omega
  have e5 : w.heap.size ≤ b4 := by omega
  have HBW := Lib.hid hbw
  have HB4 := Lib.hid hb4
  have HBB6 := Lib.hid hb66
  have HNI : Hid (NI w W6 bw n 0 g o) := Lib.hid ⟨A, c, g1, by omega, hcm, fun h => by rw [hA (by omega)]; rfl, hb6⟩
  have HNu := Lib.hid (fun k V (h : NI w V bw n k g o) => num_any 64 w V bw n k g o l oz hln hg (by omega) hcc (HP k) h)
  have HX : Hid (Blk W6 b6 30 #[.int .i64 fi, .int .u64 0, .int .u64 0, .int .i64 0, .slice none 0 0]) := Lib.hid g3
  have HR : Hid (Blk W6 b4 30 #[.int .i64 0, .int .u64 0, .int .u64 0, .int .i64 0, .slice none 0 0]) := Lib.hid g2
  have HW6 := Lib.hid hW6
  have HB6 := Lib.hid hb6
  have c2 : W6.cell? ⟨w.heap.size, 2, none⟩ = some (.int .i64 8) := by
    have : Blk W6 w.heap.size 61 #[.int .i64 fi, .string nm, .int .i64 8, .slice At nt ct, .slice Ag ng cg] := g0
    exact this.cell 2
  clear hbw hb4 hb66 hW6 hb6 g3 g2 g1 g0 HP hcc hcl hA hg hln
  obtain ⟨z0, hz0⟩ : ∃ z, z = nvl oz l 0 := ⟨_, rfl⟩
  obtain ⟨z1, hz1⟩ : ∃ z, z = nvl oz l 1 := ⟨_, rfl⟩
  obtain ⟨z2, hz2⟩ : ∃ z, z = nvl oz l 2 := ⟨_, rfl⟩
  rw [← hz0]
  rw [← hz1]
  rw [← hz2]
  have HZ0 := Lib.hid hz0
  clear hz0
  have HZ1 := Lib.hid hz1
  clear hz1
  have HZ2 := Lib.hid hz2
  clear hz2
  go_enter Tryz.func49, Tryz.ntmps49
  go_upto_region 3 with fail
  rw [← HBB6.out, ← HB4.out, ← HBW.out]
  rw [← HW6.out]
  go_wp2_with fail
  refine (HNu.out 0 _ HNI.out).mono ?_
  rintro e V0 ⟨rfl, ni0, fr0⟩
  rw [← HZ0.out]
  have HNI0 := Lib.hid ni0
  have HFR0 := Lib.hid fr0
  clear ni0 fr0
  have HF0 := HFR0
  go_wp2_with fail
  refine (HNu.out 1 _ HNI0.out).mono ?_
  rintro e V1 ⟨rfl, ni1, fr1⟩
  rw [← HZ1.out]
  have HNI1 := Lib.hid ni1
  have HFR1 := Lib.hid fr1
  clear ni1 fr1
  have HF1 := Lib.hid (HF0.out.trans HFR1.out)
  go_wp2_with fail
  refine (HNu.out 2 _ HNI1.out).mono ?_
  rintro e V2 ⟨rfl, ni2, fr2⟩
  rw [← HZ2.out]
  have HNI2 := Lib.hid ni2
  have HFR2 := Lib.hid fr2
  clear ni2 fr2
  have HF2 := Lib.hid (HF1.out.trans HFR2.out)
  have xb := HF2.out.keep HX.out e1
  have rb := HF2.out.keep HR.out e2
  have xb : Blk V2 b6 30 #[.int .i64 fi, .int .u64 0, .int .u64 0, .int .i64 0, .slice none 0 0] := xb
  have rb : Blk V2 b4 30 #[.int .i64 0, .int .u64 0, .int .u64 0, .int .i64 0, .slice none 0 0] := rb
  have HXB := Lib.hid xb
  have HRB := Lib.hid rb
  have HBV : Hid (Below w.heap.size w V2) := Lib.hid (by obtain ⟨_, _, _, _, _, _, h⟩ := HNI2.out; exact h)
  clear xb rb
  have u0 : V2.cell? ⟨b6, 1, none⟩ = some (.int .u64 0) := (HXB.out).cell 1
  have v0 : V2.frozen? ⟨b6, 1, none⟩ = false := (HXB.out).frozen 1
  have u1 : (V2.setCell ⟨b6, 1, none⟩ (.int .u64 (z0 : Nat))).cell? ⟨b6, 2, none⟩ = some (.int .u64 0) := ((HXB.out.set_ 1 (.int .u64 (z0 : Nat)))).cell 2
  have v1 : (V2.setCell ⟨b6, 1, none⟩ (.int .u64 (z0 : Nat))).frozen? ⟨b6, 2, none⟩ = false := ((HXB.out.set_ 1 (.int .u64 (z0 : Nat)))).frozen 2
  have u2 : ((V2.setCell ⟨b6, 1, none⟩ (.int .u64 (z0 : Nat))).setCell ⟨b6, 2, none⟩ (.int .u64 (z1 : Nat))).cell? ⟨b6, 3, none⟩ = some (.int .i64 0) := (((HXB.out.set_ 1 (.int .u64 (z0 : Nat))).set_ 2 (.int .u64 (z1 : Nat)))).cell 3
  have v2 : ((V2.setCell ⟨b6, 1, none⟩ (.int .u64 (z0 : Nat))).setCell ⟨b6, 2, none⟩ (.int .u64 (z1 : Nat))).frozen? ⟨b6, 3, none⟩ = false := (((HXB.out.set_ 1 (.int .u64 (z0 : Nat))).set_ 2 (.int .u64 (z1 : Nat)))).frozen 3
  go_upto_region 19 with fail
  obtain ⟨W9, hW9⟩ : ∃ U, U = (((V2.setCell ⟨b6, 1, none⟩ (.int .u64 (z0 : Nat))).setCell ⟨b6, 2, none⟩ (.int .u64 (z1 : Nat))).setCell ⟨b6, 3, none⟩ (.int .i64 (wrap64 (z2 : Nat)))) := ⟨_, rfl⟩
  rw [← hW9]
  have xe : Blk W9 b6 30 #[.int .i64 fi, .int .u64 (z0 : Nat), .int .u64 (z1 : Nat), .int .i64 (wrap64 (z2 : Nat)), .slice none 0 0] := by rw [hW9]; exact (((HXB.out.set_ 1 (.int .u64 (z0 : Nat))).set_ 2 (.int .u64 (z1 : Nat))).set_ 3 (.int .i64 (wrap64 (z2 : Nat))))
  have re : Blk W9 b4 30 #[.int .i64 0, .int .u64 0, .int .u64 0, .int .i64 0, .slice none 0 0] := by rw [hW9]; exact (((HRB.out.far (p := ⟨b6, 1, none⟩) e3 (.int .u64 (z0 : Nat))).far (p := ⟨b6, 2, none⟩) e3 (.int .u64 (z1 : Nat))).far (p := ⟨b6, 3, none⟩) e3 (.int .i64 (wrap64 (z2 : Nat))))
  have bl : Below w.heap.size w W9 := by rw [hW9]; exact (((HBV.out.setCell e4 (.int .u64 (z0 : Nat))).setCell e4 (.int .u64 (z1 : Nat))).setCell e4 (.int .i64 (wrap64 (z2 : Nat))))
  have y0 : W9.cell? ⟨b6, 0, none⟩ = some (.int .i64 fi) := xe.cell 0
  have y1 : W9.cell? ⟨b6, 1, none⟩ = some (.int .u64 (z0 : Nat)) := xe.cell 1
  have y2 : W9.cell? ⟨b6, 2, none⟩ = some (.int .u64 (z1 : Nat)) := xe.cell 2
  have y3 : W9.cell? ⟨b6, 3, none⟩ = some (.int .i64 (wrap64 (z2 : Nat))) := xe.cell 3
  have y4 : W9.cell? ⟨b6, 4, none⟩ = some (.slice none 0 0) := xe.cell 4
  have HRE := Lib.hid re
  have HBL := Lib.hid bl
  clear xe re bl hW9
  go_wp2_with (refine wpList_store30 rfl (.tmp 4) (.tmp 66) rfl b4 _ _ _ _ _ _ _ _ rfl rfl HRE.out (Lib.hid rfl) ?_)
  refine bodyPost_ret (v := .agg #[.int .i64 fi, .int .u64 (z0 : Nat), .int .u64 (z1 : Nat), .int .i64 (wrap64 (z2 : Nat)), .slice none 0 0]) (results_cell_row results49 _ _ b4 30 _ (0, 0) _ rfl (setRow_heap _ b4 _ _ 30 (0, 0) HRE.out) Tryz.underlying30 rfl (by kernel_rfl)) rfl ?_
  exact ⟨none, 0, 0, by first | rfl | skip, ⟨rfl, Nat.le_refl _, by unfold maxLen; omega, fun h => by omega⟩, below_setRow HBL.out e5 _, (fun p h => by cases h), (fun p h => by cases h)⟩
set_option maxHeartbeats 4000000 in
set_option maxRecDepth 100000 in
theorem guess_x (fi fo : Int) (nm : ByteArray) (At Ag : Option Addr) (nt ct ng cg : Nat) (hnt : nt ≤ ct) (hct : ct ≤ 9223372036854775807) (hng : ng ≤ cg) (hcg : cg ≤ 9223372036854775807) (A : Option Addr) (n c : Nat) (l : List (List UInt8)) (oz : List UInt8 → Option Nat) (w : World) (hl : Ss w A n c l)
    (HP : ∀ k, k < n → ∀ U, Below w.heap.size w U → Calls Tryz.prog 83 #[.int .i64 64, .string (bs (l.getD k []))] U (PaP (oz (l.getD k [])) U)) (h0 : fo ≠ 0) (h1 : fo ≠ 1) (h3 : fo ≠ 3) (h5 : fo ≠ 5) (h10 : fo ≠ 10) (h8 : fo ≠ 8) (h11 : fo ≠ 11) :
    Calls Tryz.prog 49 #[.agg #[.int .i64 fi, .string nm, .int .i64 fo, .slice At nt ct, .slice Ag ng cg], .slice A n c] w (GuP ⟨fi, ((nvl oz l 0 : Nat) : Int), 0, 0, []⟩ w) := by
  obtain ⟨hln, hnc, hcm, hcl⟩ := hl
  unfold maxLen at hcm
  obtain ⟨g, o, hA, hg, hcc⟩ : ∃ g o, (0 < n → A = some ⟨g, o, none⟩) ∧ (0 < n → g < w.heap.size) ∧ ∀ i, i < n → w.cell? ⟨g, o + i, none⟩ = some (Sv (l.getD i [])) := by
    rcases Nat.eq_zero_or_pos n with h0 | h0
    · exact ⟨0, 0, fun h => by omega, fun h => by omega, fun i hi => by omega⟩
    · obtain ⟨g, o, e, h1, h2⟩ := hcl h0
      exact ⟨g, o, fun _ => e, fun _ => h1, h2⟩
  obtain ⟨W6, hW6⟩ : ∃ V, V = (((w.alloc (.cells #[.int .i64 fi, .string nm, .int .i64 fo, .slice At nt ct, .slice Ag ng cg] 61)).alloc (.cells #[.slice A n c] 73)).alloc (.cells #[.int .i64 0, .int .u64 0, .int .u64 0, .int .i64 0, .slice none 0 0] 30)).alloc (.cells #[.int .i64 fi, .int .u64 0, .int .u64 0, .int .i64 0, .slice none 0 0] 30) := ⟨_, rfl⟩
  have hb6 : Below w.heap.size w W6 := by rw [hW6]; exact ((((Below.refl w.heap.size w).alloc (Nat.le_refl _) _).alloc (by simp) _).alloc (by simp; omega) _).alloc (by simp; omega) _
  obtain ⟨g3, g2, g1, g0⟩ := heap4 w (.cells #[.int .i64 fi, .string nm, .int .i64 fo, .slice At nt ct, .slice Ag ng cg] 61) (.cells #[.slice A n c] 73) (.cells #[.int .i64 0, .int .u64 0, .int .u64 0, .int .i64 0, .slice none 0 0] 30) (.cells #[.int .i64 fi, .int .u64 0, .int .u64 0, .int .i64 0, .slice none 0 0] 30)
  rw [← hW6] at g3 g2 g1 g0
  obtain ⟨bw, hbw⟩ : ∃ x, x = w.heap.size + 1 := ⟨_, rfl⟩
  obtain ⟨b4, hb4⟩ : ∃ x, x = w.heap.size + 1 + 1 := ⟨_, rfl⟩
  obtain ⟨b6, hb66⟩ : ∃ x, x = w.heap.size + 1 + 1 + 1 := ⟨_, rfl⟩
  rw [← hb66] at g3
  rw [← hb4] at g2
  rw [← hbw] at g1
  have e1 : ¬ b6 = bw := by omega
  have e2 : ¬ b4 = bw := by omega
  have e3 : ¬ b4 = b6 := by omega
  have e4 : w.heap.size ≤ b6 := by omega
  have e5 : w.heap.size ≤ b4 := by omega
  have HBW := Lib.hid hbw
  have HB4 := Lib.hid hb4
  have HBB6 := Lib.hid hb66
  have HNI : Hid (NI w W6 bw n 0 g o) := Lib.hid ⟨A, c, g1, by omega, hcm, fun h => by rw [hA (by omega)]; rfl, hb6⟩
  have HNu := Lib.hid (fun k V (h : NI w V bw n k g o) => num_any 64 w V bw n k g o l oz hln hg (by omega) hcc (HP k) h)
  have HX : Hid (Blk W6 b6 30 #[.int .i64 fi, .int .u64 0, .int .u64 0, .int .i64 0, .slice none 0 0]) := Lib.hid g3
  have HR : Hid (Blk W6 b4 30 #[.int .i64 0, .int .u64 0, .int .u64 0, .int .i64 0, .slice none 0 0]) := Lib.hid g2
  have HW6 := Lib.hid hW6
  have HB6 := Lib.hid hb6
  have c2 : W6.cell? ⟨w.heap.size, 2, none⟩ = some (.int .i64 fo) := by
    have : Blk W6 w.heap.size 61 #[.int .i64 fi, .string nm, .int .i64 fo, .slice At nt ct, .slice Ag ng cg] := g0
    exact this.cell 2
  have f0 : (fo == 0) = false := by simpa using h0
  have f1 : (fo == 1) = false := by simpa using h1
  have f3 : (fo == 3) = false := by simpa using h3
  have f5 : (fo == 5) = false := by simpa using h5
  have f10 : (fo == 10) = false := by simpa using h10
  have f8 : (fo == 8) = false := by simpa using h8
  have f11 : (fo == 11) = false := by simpa using h11
  clear h0 h1 h3 h5 h10 h8 h11
  clear hbw hb4 hb66 hW6 hb6 g3 g2 g1 g0 HP hcc hcl hA hg hln
  obtain ⟨z0, hz0⟩ : ∃ z, z = nvl oz l 0 := ⟨_, rfl⟩
  rw [← hz0]
  have HZ0 := Lib.hid hz0
  clear hz0
  go_enter Tryz.func49, Tryz.ntmps49
  go_upto_region 3 with fail
  rw [← HBB6.out, ← HB4.out, ← HBW.out]
  rw [← HW6.out]
  go_wp2_with fail
  refine (HNu.out 0 _ HNI.out).mono ?_
  rintro e V0 ⟨rfl, ni0, fr0⟩
  rw [← HZ0.out]
  have HNI0 := Lib.hid ni0
  have HFR0 := Lib.hid fr0
  clear ni0 fr0
  have HF0 := HFR0
  have xb := HF0.out.keep HX.out e1
  have rb := HF0.out.keep HR.out e2
  have xb : Blk V0 b6 30 #[.int .i64 fi, .int .u64 0, .int .u64 0, .int .i64 0, .slice none 0 0] := xb
  have rb : Blk V0 b4 30 #[.int .i64 0, .int .u64 0, .int .u64 0, .int .i64 0, .slice none 0 0] := rb
  have HXB := Lib.hid xb
  have HRB := Lib.hid rb
  have HBV : Hid (Below w.heap.size w V0) := Lib.hid (by obtain ⟨_, _, _, _, _, _, h⟩ := HNI0.out; exact h)
  clear xb rb
  have u0 : V0.cell? ⟨b6, 1, none⟩ = some (.int .u64 0) := (HXB.out).cell 1
  have v0 : V0.frozen? ⟨b6, 1, none⟩ = false := (HXB.out).frozen 1
  go_upto_region 19 with fail
  obtain ⟨W9, hW9⟩ : ∃ U, U = (V0.setCell ⟨b6, 1, none⟩ (.int .u64 (z0 : Nat))) := ⟨_, rfl⟩
  rw [← hW9]
  have xe : Blk W9 b6 30 #[.int .i64 fi, .int .u64 (z0 : Nat), .int .u64 0, .int .i64 0, .slice none 0 0] := by rw [hW9]; exact (HXB.out.set_ 1 (.int .u64 (z0 : Nat)))
  have re : Blk W9 b4 30 #[.int .i64 0, .int .u64 0, .int .u64 0, .int .i64 0, .slice none 0 0] := by rw [hW9]; exact (HRB.out.far (p := ⟨b6, 1, none⟩) e3 (.int .u64 (z0 : Nat)))
  have bl : Below w.heap.size w W9 := by rw [hW9]; exact (HBV.out.setCell e4 (.int .u64 (z0 : Nat)))
  have y0 : W9.cell? ⟨b6, 0, none⟩ = some (.int .i64 fi) := xe.cell 0
  have y1 : W9.cell? ⟨b6, 1, none⟩ = some (.int .u64 (z0 : Nat)) := xe.cell 1
  have y2 : W9.cell? ⟨b6, 2, none⟩ = some (.int .u64 0) := xe.cell 2
  have y3 : W9.cell? ⟨b6, 3, none⟩ = some (.int .i64 0) := xe.cell 3
  have y4 : W9.cell? ⟨b6, 4, none⟩ = some (.slice none 0 0) := xe.cell 4
  have HRE := Lib.hid re
  have HBL := Lib.hid bl
  clear xe re bl hW9
  go_wp2_with (refine wpList_store30 rfl (.tmp 4) (.tmp 66) rfl b4 _ _ _ _ _ _ _ _ rfl rfl HRE.out (Lib.hid rfl) ?_)
  refine bodyPost_ret (v := .agg #[.int .i64 fi, .int .u64 (z0 : Nat), .int .u64 0, .int .i64 0, .slice none 0 0]) (results_cell_row results49 _ _ b4 30 _ (0, 0) _ rfl (setRow_heap _ b4 _ _ 30 (0, 0) HRE.out) Tryz.underlying30 rfl (by kernel_rfl)) rfl ?_
  exact ⟨none, 0, 0, by first | rfl | skip, ⟨rfl, Nat.le_refl _, by unfold maxLen; omega, fun h => by omega⟩, below_setRow HBL.out e5 _, (fun p h => by cases h), (fun p h => by cases h)⟩
end Go.Proofs.YtggfaalodojjkaaGreatDoor
namespace Go.Proofs.YtggfaalodojjkaaGreatDoor
open Go.RowKit
set_option linter.unusedVariables false
set_option linter.unusedSimpArgs false
theorem index_sp : ∀ (x t : List UInt8), (32 : UInt8) ∉ x → Lib.index (x ++ 32 :: t) [32] = x.length ∧ Lib.index x [32] = -1
  | [], t, _ => by
    rw [Lib.index_one, Lib.index_one]
    exact ⟨by simp [Lib.indexByte], rfl⟩
  | c :: x, t, h => by
    have hc : ¬ c = 32 := fun e => h (by rw [e]; exact List.mem_cons_self)
    obtain ⟨h1, h2⟩ := index_sp x t (fun e => h (List.mem_cons_of_mem _ e))
    rw [Lib.index_one] at h1 h2 ⊢
    rw [Lib.index_one]
    have hb : (c == 32) = false := by simpa using hc
    constructor
    · rw [List.cons_append, Lib.indexByte, hb, h1]
      simp
    · rw [Lib.indexByte, hb, h2]
      rfl
theorem join_two (x y : List UInt8) (r : List (List UInt8)) : Lib.join (x :: y :: r) [32] = x ++ 32 :: Lib.join (y :: r) [32] := by
  rw [Lib.join_cons, Lib.join_cons]
  simp [Lib.joinTail]
theorem split_join : ∀ (r : List (List UInt8)) (x : List UInt8), (∀ y ∈ x :: r, (32 : UInt8) ∉ y) → Lib.count (Lib.join (x :: r) [32]) [32] = r.length ∧ Lib.splitK [32] 0 r.length (Lib.join (x :: r) [32]) = x :: r
  | [], x, h => by
    have hx := (index_sp x [] (h x List.mem_cons_self)).2
    rw [Lib.join_one]
    exact ⟨Lib.count_miss hx, rfl⟩
  | y :: r, x, h => by
    obtain ⟨h1, h2⟩ := split_join r y (fun z hz => h z (List.mem_cons_of_mem _ hz))
    have hx := (index_sp x (Lib.join (y :: r) [32]) (h x List.mem_cons_self)).1
    rw [← join_two] at hx
    have hd : (Lib.join (x :: y :: r) [32]).drop (x.length + 1) = Lib.join (y :: r) [32] := by
      rw [join_two, List.drop_append]; simp
    constructor
    · rw [Lib.count_hit (by simp) hx]
      show 1 + Lib.count ((Lib.join (x :: y :: r) [32]).drop (x.length + 1)) [32] = r.length + 1
      rw [hd, h1]; omega
    · show Lib.splitK [32] 0 (r.length + 1) _ = _
      have hne : ((x.length : Int) == -1) = false := by simp
      rw [Lib.splitK, hx, hne]
      show (Lib.join (x :: y :: r) [32]).take ((x.length : Int).toNat + 0) :: Lib.splitK [32] 0 r.length ((Lib.join (x :: y :: r) [32]).drop ((x.length : Int).toNat + 1)) = _
      rw [Int.toNat_natCast, hd, h2, join_two, Nat.add_zero, List.take_left']
      rfl
theorem Split_ok (x : List UInt8) (r : List (List UInt8)) (h : ∀ y ∈ x :: r, (32 : UInt8) ∉ y) (hl : (Lib.join (x :: r) [32]).length ≤ 1000000) (w : World) (hL : Lw w) (hr : r.length ≤ 1000000) :
    Calls Tryz.prog 47 #[.string (bs (Lib.join (x :: r) [32])), .string ⟨#[32]⟩] w fun e w' => e = .returned (.slice (some ⟨w.heap.size, 0, none⟩) (r.length + 1) (r.length + 1)) ∧ w' = w.alloc (.cells ((x :: r).map Sv).toArray 9) := by
  obtain ⟨m, hm⟩ := hL.ml.2
  obtain ⟨q1, q2⟩ := split_join r x h
  have hc : Lib.countB (bs (Lib.join (x :: r) [32])) ⟨#[32]⟩ = r.length := by
    rw [← q1]; show Lib.count _ _ = _; rw [bs_dl]
  have hs : Lib.splitB ⟨#[32]⟩ 0 r.length (bs (Lib.join (x :: r) [32])) = (x :: r).map bs := by
    have := Lib.splitB_data ⟨#[32]⟩ 0 r.length (bs (Lib.join (x :: r) [32]))
    rw [bs_dl] at this
    have e : (⟨#[32]⟩ : ByteArray).data.toList = [32] := rfl
    rw [e, q2] at this
    have h2 := congrArg (List.map bs) this
    rw [List.map_map] at h2
    have e2 : (bs ∘ fun x : ByteArray => x.data.toList) = id := by funext l; simp [bs]
    rw [e2, List.map_id] at h2
    exact h2
  have := Tryz.strings_Split (bs (Lib.join (x :: r) [32])) ⟨#[32]⟩ m w (by rw [bs_size]; omega) hm (by decide)
  rw [hc, hs, List.map_map] at this
  exact this
end Go.Proofs.YtggfaalodojjkaaGreatDoor
namespace Go.Proofs.YtggfaalodojjkaaGreatDoor
open Go.RowKit
set_option linter.unusedVariables false
set_option linter.unusedSimpArgs false
theorem results25 : Tryz.f25.results = #[.cell 2 30, .tmp 3] := by kernel_rfl
theorem sl_setRow {w : World} {A : Option Addr} {n c : Nat} {l : List Int} (h : Sl w A n c l) {g : Nat} (hg : ∀ p, A = some p → ¬ p.block = g) (cs2 : Array Value) : Sl (w.setRow g cs2) A n c l := by
  obtain ⟨h1, h2, h3, h4⟩ := h
  refine ⟨h1, h2, h3, fun h0 => ?_⟩
  obtain ⟨b, o, e, hb, hc⟩ := h4 h0
  refine ⟨b, o, e, Nat.lt_of_lt_of_le hb (fr_setRow w g cs2).size, fun i hi => ?_⟩
  rw [← hc i hi]
  have := (fr_setRow w g cs2).block b hb (hg _ e)
  simp only [World.cell?, this]
theorem sl_lt {w : World} {A : Option Addr} {n c : Nat} {l : List Int} (h : Sl w A n c l) (h0 : 0 < n) : ∀ p, A = some p → p.block < w.heap.size := by
  intro p e
  obtain ⟨b, o, e2, hb, _⟩ := h.2.2.2 h0
  rw [e] at e2
  cases e2
  exact hb
set_option maxHeartbeats 4000000 in
set_option maxRecDepth 100000 in
theorem parse_walk (nl : List UInt8) (ws : List (List UInt8)) (hsp : ∀ y ∈ nl :: ws, (32 : UInt8) ∉ y) (hjl : (Lib.join (nl :: ws) [32]).length ≤ 1119) (hwl : ws.length ≤ 1000) (w : World) (hL : Lw w) (fi fo : Int) (nm : ByteArray) (nt ng : Nat) (xc xa xb xl : Int) (l : List Int)
    (HN : Hid (∀ V, Below w.heap.size w V → Calls Tryz.prog 48 #[.string (bs nl)] V fun e w' => ∃ At ct Ag cg, nt ≤ ct ∧ ct ≤ 9223372036854775807 ∧ ng ≤ cg ∧ cg ≤ 9223372036854775807 ∧ e = .returned (.tuple #[.agg #[.int .i64 fi, .string nm, .int .i64 fo, .slice At nt ct, .slice Ag ng cg], .bool true]) ∧ Below V.heap.size V w'))
    (HG : Hid (∀ At ct Ag cg, nt ≤ ct → ct ≤ 9223372036854775807 → ng ≤ cg → cg ≤ 9223372036854775807 → ∀ A V, Below w.heap.size w V → Ss V A ws.length ws.length ws → Calls Tryz.prog 49 #[.agg #[.int .i64 fi, .string nm, .int .i64 fo, .slice At nt ct, .slice Ag ng cg], .slice A ws.length ws.length] V (GuP ⟨xc, xa, xb, xl, l⟩ V)))
    (HPr : Hid (∀ A n c V, Below w.heap.size w V → Sl V A n c l → Calls Tryz.prog 14 #[.agg #[.int .i64 xc, .int .u64 xa, .int .u64 xb, .int .i64 xl, .slice A n c]] V fun e w' => e = .returned (.string (bs (Lib.join (nl :: ws) [32]))) ∧ Below V.heap.size V w')) :
    Calls Tryz.prog 25 #[.string (bs (Lib.join (nl :: ws) [32]))] w fun e w' => ∃ Al ln lc, e = .returned (.tuple #[.agg #[.int .i64 xc, .int .u64 xa, .int .u64 xb, .int .i64 xl, .slice Al ln lc], .int .i64 0]) ∧ Sl w' Al ln lc l ∧ Below w.heap.size w w' := by
  obtain ⟨W0, hW0⟩ : ∃ V, V = w.alloc (.cells #[.int .i64 0, .int .u64 0, .int .u64 0, .int .i64 0, .slice none 0 0] 30) := ⟨_, rfl⟩
  have hb0 : Below w.heap.size w W0 := by rw [hW0]; exact (Below.refl _ _).alloc (Nat.le_refl _) _
  have hZ0 : Blk W0 w.heap.size 30 #[.int .i64 0, .int .u64 0, .int .u64 0, .int .i64 0, .slice none 0 0] := by rw [hW0]; exact Blk.new w 30 _
  have HSp := Lib.hid (Split_ok nl ws hsp (by omega) W0 (hL.below hb0) (by omega))
  obtain ⟨S, hS⟩ : ∃ S, S = bs (Lib.join (nl :: ws) [32]) := ⟨_, rfl⟩
  have hsz : ¬ (1119 : Int) < (S.size : Int) := by rw [hS, bs_size]; omega
  rw [← hS] at HSp HPr ⊢
  obtain ⟨W1, hW1⟩ : ∃ V, V = W0.alloc (.cells ((nl :: ws).map Sv).toArray 9) := ⟨_, rfl⟩
  have h01 : Below W0.heap.size W0 W1 := by rw [hW1]; exact (Below.refl _ _).alloc (Nat.le_refl _) _
  have hR1 : Blk W1 W0.heap.size 9 ((nl :: ws).map Sv).toArray := by rw [hW1]; exact Blk.new W0 9 _
  rw [← hW1] at HSp
  have x0 : W1.cell? ⟨W0.heap.size, 0, none⟩ = some (.string (bs nl)) := hR1.cell 0
  have HX1 := Lib.hid (hb0.trans (h01.mono hb0.size))
  have HN1 := Lib.hid (HN.out W1 HX1.out)
  obtain ⟨gs, hgs⟩ : ∃ x, x = W0.heap.size := ⟨_, rfl⟩
  rw [← hgs] at x0 hR1 HSp
  have HSS1 : Hid (∀ V, Below W1.heap.size W1 V → Ss V (some ⟨gs, 1, none⟩) ws.length ws.length ws) := Lib.hid (fun V hV => by
    have hk := hR1.below hV hR1.lt
    refine ⟨rfl, Nat.le_refl _, by unfold maxLen; omega, fun h => ⟨gs, 1, rfl, hk.lt, fun i hi => ?_⟩⟩
    rw [hk.cell (1 + i)]
    have e : 1 + i = i + 1 := by omega
    simp [e, List.getD_eq_getElem?_getD, List.getElem?_eq_getElem hi])
  have HZ : Hid (∀ V, Below W0.heap.size W0 V → Blk V w.heap.size 30 #[.int .i64 0, .int .u64 0, .int .u64 0, .int .i64 0, .slice none 0 0]) := Lib.hid (fun V hV => hZ0.below hV hZ0.lt)
  have HW0 := Lib.hid hW0
  have H01 := Lib.hid h01
  have HB0 := Lib.hid hb0
  have hq : (S.toList == S.toList) = true := by simp
  clear hW0 hb0 hZ0 hS hW1 h01 hR1 hgs HN hsp hjl hwl hL
  go_enter Tryz.func25, Tryz.ntmps25
  go_upto_region 1 with fail
  rw [← HW0.out]

  go_upto_region 5 with (first
    | (go_at_call 47; (with_reducible refine HSp.out.mono ?_); rintro e w1 ⟨rfl, hw⟩; rw [hw]; clear hw)
    | (go_at_call 48; (with_reducible refine HN1.out.mono ?_); rintro e w2 ⟨At, ct, Ag, cg, hnt, hct, hng, hcg, rfl, hb2⟩
       have H2 := Lib.hid hb2
       clear hb2))
  obtain ⟨W5, hW5⟩ : ∃ V, V = w2.alloc (.cells #[.int .i64 fi, .string nm, .int .i64 fo, .slice At nt ct, .slice Ag ng cg] 61) := ⟨_, rfl⟩
  obtain ⟨b5, hb5⟩ : ∃ x, x = w2.heap.size := ⟨_, rfl⟩
  have h25 : Below w2.heap.size w2 W5 := by rw [hW5]; exact (Below.refl _ _).alloc (Nat.le_refl _) _
  have hI : Blk W5 b5 61 #[.int .i64 fi, .string nm, .int .i64 fo, .slice At nt ct, .slice Ag ng cg] := by rw [hW5, hb5]; exact Blk.new w2 61 _
  rw [← hb5, ← hW5]
  have H15 : Hid (Below W1.heap.size W1 W5) := Lib.hid (H2.out.trans (h25.mono H2.out.size))
  have HB5 : Hid (Below w.heap.size w W5) := Lib.hid (HX1.out.trans (H15.out.mono HX1.out.size))
  have HX5 : Hid (Below W0.heap.size W0 W5) := Lib.hid (H01.out.trans (H15.out.mono H01.out.size))
  have HG5 : Hid (w.heap.size < W5.heap.size) := Lib.hid (Nat.lt_of_lt_of_le (HZ.out _ (Below.refl _ _)).lt HX5.out.size)
  have HVD : Hid (Below W5.heap.size W5 W5.drew) := Lib.hid (below_drew (Below.refl _ _))
  have HSS : Hid (∀ V, Below W5.heap.size W5 V → Ss V (some ⟨gs, 1, none⟩) ws.length ws.length ws) := Lib.hid (fun V hV => HSS1.out V (H15.out.trans (hV.mono H15.out.size)))
  have HSS0 : Hid (ws = [] → ∀ V A, Ss V A ws.length ws.length ws) := Lib.hid (fun h V A => by subst h; exact ⟨rfl, Nat.le_refl _, Nat.zero_le _, fun h => by cases h⟩)
  have HKS : Hid (∀ V, Below W5.heap.size W5 V → V.cell? ⟨b5, 0, none⟩ = some (.int .i64 fi) ∧ V.cell? ⟨b5, 1, none⟩ = some (.string nm) ∧ V.cell? ⟨b5, 2, none⟩ = some (.int .i64 fo) ∧ V.cell? ⟨b5, 3, none⟩ = some (.slice At nt ct) ∧ V.cell? ⟨b5, 4, none⟩ = some (.slice Ag ng cg)) := Lib.hid (fun V hV => by
    have hi := hI.below hV hI.lt
    exact ⟨hi.cell 0, hi.cell 1, hi.cell 2, hi.cell 3, hi.cell 4⟩)
  have hks0 := HKS.out W5.drew HVD.out
  clear h25 hI hW5 hb5 x0
  go_upto_region 7 with fail
  refine wp_region_noPanic ?_
  refine wp_region_held_drew (S := (fun W => W.cell? ⟨b5, 0, none⟩ = some (.int .i64 fi) ∧ W.cell? ⟨b5, 1, none⟩ = some (.string nm) ∧ W.cell? ⟨b5, 2, none⟩ = some (.int .i64 fo) ∧ W.cell? ⟨b5, 3, none⟩ = some (.slice At nt ct) ∧ W.cell? ⟨b5, 4, none⟩ = some (.slice Ag ng cg))) (by kernel_rfl) hks0 (fun hHeld => ?_)
  refine wpAnyH_take (i := 0) (oi := ?oi_1) (v := ?_) ?hi_1 (by kernel_rfl) ?hf_1 (by kernel_rfl) ?hQ_1 ?hy_1 (by assumption) ?_
  case hi_1 => simp only [List.getElem?_toArray, List.getElem?_cons_zero, List.getElem?_cons_succ]; try rfl
  case hf_1 => kernel_rfl
  case hQ_1 => exact fun _ _ _ h => h
  case hy_1 =>
    refine Or.inl ⟨by rfl, ?_⟩
    intro W hSw
    obtain ⟨q0, q1, q2, q3, q4⟩ := hSw
    go_simp
    try with_reducible rfl
  try simp only [Act.put, List.setIfInBounds_toArray, List.set_cons_zero, List.set_cons_succ]
  refine wpAnyH_take (i := 1) (oi := ?oi_2) (v := ?_) ?hi_2 (by kernel_rfl) ?hf_2 (by kernel_rfl) ?hQ_2 ?hy_2 (by assumption) ?_
  case hi_2 => simp only [List.getElem?_toArray, List.getElem?_cons_zero, List.getElem?_cons_succ]; try rfl
  case hf_2 => kernel_rfl
  case hQ_2 => exact fun _ _ _ h => h
  case hy_2 =>
    refine Or.inl ⟨by rfl, ?_⟩
    intro W hSw
    obtain ⟨q0, q1, q2, q3, q4⟩ := hSw
    go_simp
    try with_reducible rfl
  try simp only [Act.put, List.setIfInBounds_toArray, List.set_cons_zero, List.set_cons_succ]
  refine wpAnyH_take (i := 2) (oi := ?oi_3) (v := ?_) ?hi_3 (by kernel_rfl) ?hf_3 (by kernel_rfl) ?hQ_3 ?hy_3 (by assumption) ?_
  case hi_3 => simp only [List.getElem?_toArray, List.getElem?_cons_zero, List.getElem?_cons_succ]; try rfl
  case hf_3 => kernel_rfl
  case hQ_3 => exact fun _ _ _ h => h
  case hy_3 =>
    refine Or.inl ⟨by rfl, ?_⟩
    intro W hSw
    obtain ⟨q0, q1, q2, q3, q4⟩ := hSw
    go_simp
    rw [if_pos (by omega)]
    try with_reducible rfl
  try simp only [Act.put, List.setIfInBounds_toArray, List.set_cons_zero, List.set_cons_succ]
  refine wpAnyH_ready (rs := [3, 4]) (by kernel_rfl) (by simp) ?_
  refine AllReadyH.cons (o := ?oi_8_0) ?hi_8_0 (fun K hK => ?_) (AllReadyH.cons (o := ?oi_8_1) ?hi_8_1 (fun K hK => ?_) AllReadyH.nil)
  case hi_8_0 => simp only [List.getElem?_toArray, List.getElem?_cons_zero, List.getElem?_cons_succ]; try rfl
  case hi_8_1 => simp only [List.getElem?_toArray, List.getElem?_cons_zero, List.getElem?_cons_succ]; try rfl
  · go_simp
    (go_at_call 49
     (with_reducible refine (HG.out At ct Ag cg hnt hct hng hcg _ _ (HB5.out.trans (HVD.out.mono HB5.out.size)) (by rcases Classical.em (ws = []) with hws | hws <;> first | exact HSS0.out hws _ _ | (rw [if_neg hws]; exact HSS.out _ HVD.out))).mono ?_)
     rintro e w7 ⟨Al, ln, lc, rfl, hsl, hb7, hfr, hlt⟩
     have HV7 := Lib.hid (HVD.out.trans (hb7.mono HVD.out.size))
     have HSL := Lib.hid hsl
     have HB7 := Lib.hid hb7
     have HFS : Hid (∀ p, Al = some p → W5.heap.size ≤ p.block) := Lib.hid (fun p e => Nat.le_trans HVD.out.size (hfr p e))
     have HFR := Lib.hid hfr
     have HLT : Hid (∀ p, Al = some p → p.block < w7.heap.size) := Lib.hid (fun p e => hlt p e)
     have hk_ := HKS.out _ HV7.out
     clear hsl hb7 hfr hlt)
    refine hK.out _ _ hk_ (fun hHeld => ?_)
    clear hK K
    try simp only [Act.put, List.setIfInBounds_toArray, List.set_cons_zero, List.set_cons_succ]
    refine wpAnyH_ready (rs := [4]) (by kernel_rfl) (by simp) ?_
    refine AllReadyH.cons (o := ?oi_5_0) ?hi_5_0 (fun K hK => ?_) AllReadyH.nil
    case hi_5_0 => simp only [List.getElem?_toArray, List.getElem?_cons_zero, List.getElem?_cons_succ]; try rfl
    go_simp
    have HVA := Lib.hid (HV7.out.alloc HV7.out.size (.cells #[.int .i64 0, .int .u64 0, .int .u64 0, .int .i64 0, .slice none 0 0] 30))
    have HG7 : Hid (W5.heap.size ≤ w7.heap.size) := Lib.hid HV7.out.size
    have HSA := Lib.hid (HSL.out.below ((Below.refl _ _).alloc (Nat.le_refl _) (.cells #[.int .i64 0, .int .u64 0, .int .u64 0, .int .i64 0, .slice none 0 0] 30)))
    have HNE : Hid (∀ p, Al = some p → ¬ p.block = w7.heap.size) := Lib.hid (fun p e => by have := HLT.out p e; omega)
    have hk_ := HKS.out _ HVA.out
    refine hK.out _ _ hk_ (fun hHeld => ?_)
    clear hK K
    try simp only [Act.put, List.setIfInBounds_toArray, List.set_cons_zero, List.set_cons_succ]
    refine wpAnyH_ready (rs := [5]) (by kernel_rfl) (by simp) ?_
    refine AllReadyH.cons (o := ?oi_4_0) ?hi_4_0 (fun K hK => ?_) AllReadyH.nil
    case hi_4_0 => simp only [List.getElem?_toArray, List.getElem?_cons_zero, List.getElem?_cons_succ]; try rfl
    have HBo : Hid (Blk (w7.alloc (.cells #[.int .i64 0, .int .u64 0, .int .u64 0, .int .i64 0, .slice none 0 0] 30)) w7.heap.size 30 #[.int .i64 0, .int .u64 0, .int .u64 0, .int .i64 0, .slice none 0 0]) := Lib.hid (Blk.new w7 30 _)
    have hk_ := HKS.out _ (below_setRow HVA.out (HG7.out) #[.int .i64 xc, .int .u64 xa, .int .u64 xb, .int .i64 xl, .slice Al ln lc])
    refine step_store_row rfl 30 (.tmp 7) (.tmp 27) rfl (w7.heap.size) #[.int .i64 xc, .int .u64 xa, .int .u64 xb, .int .i64 xl, .slice Al ln lc] rfl rfl 30 _ HBo.out (by kernel_rfl) rfl (by simp [Value.oneCell']) ?_
    refine hK.out _ _ hk_ (fun hHeld => ?_)
    clear hK K
    try simp only [Act.put, List.setIfInBounds_toArray, List.set_cons_zero, List.set_cons_succ]
    refine wpAnyH_done (by kernel_rfl) ?_ _
    refine NoPanic.normal ?_
    clear hHeld
    obtain ⟨W8, hW8⟩ : ∃ V, V = ((w7.alloc (.cells #[.int .i64 0, .int .u64 0, .int .u64 0, .int .i64 0, .slice none 0 0] 30))).setRow (w7.heap.size) #[.int .i64 xc, .int .u64 xa, .int .u64 xb, .int .i64 xl, .slice Al ln lc] := ⟨_, rfl⟩
    rw [← hW8]
    obtain ⟨b7, hb7⟩ : ∃ x, x = w7.heap.size := ⟨_, rfl⟩
    have HVS : Hid (Below W5.heap.size W5 W8) := Lib.hid (by rw [hW8]; exact below_setRow HVA.out HG7.out _)
    have HSLS : Hid (Sl W8 Al ln lc l) := Lib.hid (by rw [hW8]; exact sl_setRow HSA.out (HNE.out) _)
    have HBK : Hid (Blk W8 b7 30 #[.int .i64 xc, .int .u64 xa, .int .u64 xb, .int .i64 xl, .slice Al ln lc]) := Lib.hid (by rw [hW8, hb7]; exact setRow_heap _ _ _ _ 30 (0, 0) HBo.out)
    rw [← hb7]
    clear hW8 hb7 HBo hk_
    have HVE := Lib.hid (HB5.out.trans (HVS.out.mono HB5.out.size))
    have hs8 := HSLS.out
    have HP8 := Lib.hid (HPr.out Al ln lc _ HVE.out hs8)
    have l1 := hs8.2.1
    have l2 := hs8.2.2.1
    unfold maxLen at l2
    have y0 : W8.cell? ⟨b7, 0, none⟩ = some (.int .i64 xc) := HBK.out.cell 0
    have y1 : W8.cell? ⟨b7, 1, none⟩ = some (.int .u64 xa) := HBK.out.cell 1
    have y2 : W8.cell? ⟨b7, 2, none⟩ = some (.int .u64 xb) := HBK.out.cell 2
    have y3 : W8.cell? ⟨b7, 3, none⟩ = some (.int .i64 xl) := HBK.out.cell 3
    have y4 : W8.cell? ⟨b7, 4, none⟩ = some (.slice Al ln lc) := HBK.out.cell 4
    have HY := Lib.hid (fun V (hV : Below W8.heap.size W8 V) => HBK.out.below hV HBK.out.lt)
    have HRZ := Lib.hid (fun V (hV : Below W8.heap.size W8 V) => (HZ.out V (HX5.out.trans ((HVS.out.trans (hV.mono HVS.out.size)).mono HX5.out.size))))
    have HSY := Lib.hid (fun V (hV : Below W8.heap.size W8 V) => hs8.below hV)
    clear hs8
    go_wp2_with (first
      | (go_at_call 14; (with_reducible refine HP8.out.mono ?_); rintro e w9 ⟨rfl, hb9⟩
         have H9 := Lib.hid hb9
         have z0 : w9.cell? ⟨b7, 0, none⟩ = some (.int .i64 xc) := (HY.out _ hb9).cell 0
         have z1 : w9.cell? ⟨b7, 1, none⟩ = some (.int .u64 xa) := (HY.out _ hb9).cell 1
         have z2 : w9.cell? ⟨b7, 2, none⟩ = some (.int .u64 xb) := (HY.out _ hb9).cell 2
         have z3 : w9.cell? ⟨b7, 3, none⟩ = some (.int .i64 xl) := (HY.out _ hb9).cell 3
         have z4 : w9.cell? ⟨b7, 4, none⟩ = some (.slice Al ln lc) := (HY.out _ hb9).cell 4
         have HR9 := Lib.hid (HRZ.out _ hb9)
         have HS9 := Lib.hid (HSY.out _ hb9)
         have HE9 := Lib.hid (HVE.out.trans (hb9.mono HVE.out.size))
         clear hb9)
      | (refine wpList_store30 rfl (.tmp 2) (.tmp 33) rfl w.heap.size _ _ _ _ _ _ _ _ rfl rfl HR9.out (Lib.hid rfl) ?_))
    all_goals
     refine bodyPost_ret (v := .tuple #[.agg #[.int .i64 xc, .int .u64 xa, .int .u64 xb, .int .i64 xl, .slice Al ln lc], .int .i64 0]) (res_cell results25 _ _ w.heap.size 30 _ _ rfl (setRow_heap _ w.heap.size _ _ 30 (0, 0) HR9.out) Tryz.underlying30 rfl (by kernel_rfl)) rfl ?_
     refine ⟨Al, ln, lc, rfl, ?_, below_setRow HE9.out (Nat.le_refl _) _⟩
     exact sl_setRow HS9.out (fun p e => by have := HFS.out p e; have := HG5.out; omega) _
  · go_simp
    have HVA : Hid (Below W5.heap.size W5 (W5.alloc (.cells #[.int .i64 0, .int .u64 0, .int .u64 0, .int .i64 0, .slice none 0 0] 30)).drew) := Lib.hid (below_drew ((Below.refl _ _).alloc (Nat.le_refl _) _))
    have HBA : Hid (Blk (W5.alloc (.cells #[.int .i64 0, .int .u64 0, .int .u64 0, .int .i64 0, .slice none 0 0] 30)).drew W5.heap.size 30 #[.int .i64 0, .int .u64 0, .int .u64 0, .int .i64 0, .slice none 0 0]) := Lib.hid (Blk.new W5 30 _)
    have HG7 : Hid (W5.heap.size ≤ W5.heap.size) := Lib.hid (Nat.le_refl _)
    have hk_ := HKS.out _ HVA.out
    refine hK.out _ _ hk_ (fun hHeld => ?_)
    clear hK K
    try simp only [Act.put, List.setIfInBounds_toArray, List.set_cons_zero, List.set_cons_succ]
    refine wpAnyH_ready (rs := [3]) (by kernel_rfl) (by simp) ?_
    refine AllReadyH.cons (o := ?oi_7_0) ?hi_7_0 (fun K hK => ?_) AllReadyH.nil
    case hi_7_0 => simp only [List.getElem?_toArray, List.getElem?_cons_zero, List.getElem?_cons_succ]; try rfl
    go_simp
    (go_at_call 49
     (with_reducible refine (HG.out At ct Ag cg hnt hct hng hcg _ _ (HB5.out.trans (HVA.out.mono HB5.out.size)) (by rcases Classical.em (ws = []) with hws | hws <;> first | exact HSS0.out hws _ _ | (rw [if_neg hws]; exact HSS.out _ HVA.out))).mono ?_)
     rintro e w7 ⟨Al, ln, lc, rfl, hsl, hb7, hfr, hlt⟩
     have HV7 := Lib.hid (HVA.out.trans (hb7.mono HVA.out.size))
     have HSL := Lib.hid hsl
     have HB7 := Lib.hid hb7
     have HFS : Hid (∀ p, Al = some p → W5.heap.size ≤ p.block) := Lib.hid (fun p e => Nat.le_trans HVA.out.size (hfr p e))
     have HFR := Lib.hid hfr
     have HLT : Hid (∀ p, Al = some p → p.block < w7.heap.size) := Lib.hid (fun p e => hlt p e)
     have hk_ := HKS.out _ HV7.out
     clear hsl hb7 hfr hlt)
    refine hK.out _ _ hk_ (fun hHeld => ?_)
    clear hK K
    try simp only [Act.put, List.setIfInBounds_toArray, List.set_cons_zero, List.set_cons_succ]
    refine wpAnyH_ready (rs := [5]) (by kernel_rfl) (by simp) ?_
    refine AllReadyH.cons (o := ?oi_6_0) ?hi_6_0 (fun K hK => ?_) AllReadyH.nil
    case hi_6_0 => simp only [List.getElem?_toArray, List.getElem?_cons_zero, List.getElem?_cons_succ]; try rfl
    have HBo : Hid (Blk w7 W5.heap.size 30 #[.int .i64 0, .int .u64 0, .int .u64 0, .int .i64 0, .slice none 0 0]) := Lib.hid (HBA.out.below HB7.out HBA.out.lt)
    have hk_ := HKS.out _ (below_setRow HV7.out (HG7.out) #[.int .i64 xc, .int .u64 xa, .int .u64 xb, .int .i64 xl, .slice Al ln lc])
    refine step_store_row rfl 30 (.tmp 7) (.tmp 27) rfl (W5.heap.size) #[.int .i64 xc, .int .u64 xa, .int .u64 xb, .int .i64 xl, .slice Al ln lc] rfl rfl 30 _ HBo.out (by kernel_rfl) rfl (by simp [Value.oneCell']) ?_
    refine hK.out _ _ hk_ (fun hHeld => ?_)
    clear hK K
    try simp only [Act.put, List.setIfInBounds_toArray, List.set_cons_zero, List.set_cons_succ]
    refine wpAnyH_done (by kernel_rfl) ?_ _
    refine NoPanic.normal ?_
    clear hHeld
    obtain ⟨W8, hW8⟩ : ∃ V, V = (w7).setRow (W5.heap.size) #[.int .i64 xc, .int .u64 xa, .int .u64 xb, .int .i64 xl, .slice Al ln lc] := ⟨_, rfl⟩
    rw [← hW8]
    obtain ⟨b7, hb7⟩ : ∃ x, x = W5.heap.size := ⟨_, rfl⟩
    have HVS : Hid (Below W5.heap.size W5 W8) := Lib.hid (by rw [hW8]; exact below_setRow HV7.out HG7.out _)
    have HSLS : Hid (Sl W8 Al ln lc l) := Lib.hid (by rw [hW8]; exact sl_setRow HSL.out (fun p e => by have := HFR.out p e; simp at this; omega) _)
    have HBK : Hid (Blk W8 b7 30 #[.int .i64 xc, .int .u64 xa, .int .u64 xb, .int .i64 xl, .slice Al ln lc]) := Lib.hid (by rw [hW8, hb7]; exact setRow_heap _ _ _ _ 30 (0, 0) HBo.out)
    rw [← hb7]
    clear hW8 hb7 HBo hk_
    have HVE := Lib.hid (HB5.out.trans (HVS.out.mono HB5.out.size))
    have hs8 := HSLS.out
    have HP8 := Lib.hid (HPr.out Al ln lc _ HVE.out hs8)
    have l1 := hs8.2.1
    have l2 := hs8.2.2.1
    unfold maxLen at l2
    have y0 : W8.cell? ⟨b7, 0, none⟩ = some (.int .i64 xc) := HBK.out.cell 0
    have y1 : W8.cell? ⟨b7, 1, none⟩ = some (.int .u64 xa) := HBK.out.cell 1
    have y2 : W8.cell? ⟨b7, 2, none⟩ = some (.int .u64 xb) := HBK.out.cell 2
    have y3 : W8.cell? ⟨b7, 3, none⟩ = some (.int .i64 xl) := HBK.out.cell 3
    have y4 : W8.cell? ⟨b7, 4, none⟩ = some (.slice Al ln lc) := HBK.out.cell 4
    have HY := Lib.hid (fun V (hV : Below W8.heap.size W8 V) => HBK.out.below hV HBK.out.lt)
    have HRZ := Lib.hid (fun V (hV : Below W8.heap.size W8 V) => (HZ.out V (HX5.out.trans ((HVS.out.trans (hV.mono HVS.out.size)).mono HX5.out.size))))
    have HSY := Lib.hid (fun V (hV : Below W8.heap.size W8 V) => hs8.below hV)
    clear hs8
    go_wp2_with (first
      | (go_at_call 14; (with_reducible refine HP8.out.mono ?_); rintro e w9 ⟨rfl, hb9⟩
         have H9 := Lib.hid hb9
         have z0 : w9.cell? ⟨b7, 0, none⟩ = some (.int .i64 xc) := (HY.out _ hb9).cell 0
         have z1 : w9.cell? ⟨b7, 1, none⟩ = some (.int .u64 xa) := (HY.out _ hb9).cell 1
         have z2 : w9.cell? ⟨b7, 2, none⟩ = some (.int .u64 xb) := (HY.out _ hb9).cell 2
         have z3 : w9.cell? ⟨b7, 3, none⟩ = some (.int .i64 xl) := (HY.out _ hb9).cell 3
         have z4 : w9.cell? ⟨b7, 4, none⟩ = some (.slice Al ln lc) := (HY.out _ hb9).cell 4
         have HR9 := Lib.hid (HRZ.out _ hb9)
         have HS9 := Lib.hid (HSY.out _ hb9)
         have HE9 := Lib.hid (HVE.out.trans (hb9.mono HVE.out.size))
         clear hb9)
      | (refine wpList_store30 rfl (.tmp 2) (.tmp 33) rfl w.heap.size _ _ _ _ _ _ _ _ rfl rfl HR9.out (Lib.hid rfl) ?_))
    all_goals
     refine bodyPost_ret (v := .tuple #[.agg #[.int .i64 xc, .int .u64 xa, .int .u64 xb, .int .i64 xl, .slice Al ln lc], .int .i64 0]) (res_cell results25 _ _ w.heap.size 30 _ _ rfl (setRow_heap _ w.heap.size _ _ 30 (0, 0) HR9.out) Tryz.underlying30 rfl (by kernel_rfl)) rfl ?_
     refine ⟨Al, ln, lc, rfl, ?_, below_setRow HE9.out (Nat.le_refl _) _⟩
     exact sl_setRow HS9.out (fun p e => by have := HFS.out p e; have := HG5.out; omega) _
end Go.Proofs.YtggfaalodojjkaaGreatDoor
