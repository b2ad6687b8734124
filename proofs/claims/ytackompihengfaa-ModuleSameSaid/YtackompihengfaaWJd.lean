/-
  instr.Same, code.Same; what EqualFunc is given of functions, elements and data.
-/
import Derived.Test.YtackompihengfaaWJb
import Derived.Test.YtackompihengfaaWJc
namespace Go.Proofs.Ytackompihengfaa
open Go.RowKit Go.PlainAid
set_option linter.unusedVariables false
set_option linter.unusedSimpArgs false
def eqI (x y : In) : Bool := decide (x.cd = y.cd) && decide (x.a = y.a) && decide (x.b = y.b) && decide (x.al = y.al) && decide (x.l = y.l)
def eqB (lc lc' : List Nat) (m m' : Nat) (X X' : Nat → In) : Bool := decide (lc = lc') && eqL m m' (fun i => eqI (X i) (X' i))
def eqF (x y : FunT) : Bool := decide (x.sg = y.sg) && eqB x.lc y.lc x.m y.m x.X y.X
def eqE (x y : ElT) : Bool := decide (x.at_ = y.at_) && decide (x.fs = y.fs)
def eqD (x y : DaT) : Bool := decide (x.me = y.me) && decide (x.at_ = y.at_) && decide (x.bs = y.bs)
set_option maxHeartbeats 4000000 in
set_option maxRecDepth 100000 in
theorem InstrSame0_ok (cd cd2 : Int) (a a2 : Int) (b b2 : Int) (al al2 : Int) (A B : Option Addr) (n m ca cb : Nat) (l l2 : List Int) (hn : n ≤ 5000) (hm : m ≤ 5000) (w : World) (ha : Sl w A n ca l) (hb : Sl w B m cb l2)
    (he : ∀ W, Below w.heap.size w W → Calls Try.prog 49 #[.slice A n ca, .slice B m cb] W fun e w' => e = .returned (.bool (decide (l = l2))) ∧ Below W.heap.size W w') :
    Calls Try.prog 34 #[.agg #[.int .i64 cd, .int .u64 a, .int .u64 b, .int .i64 al, .slice A n ca], .agg #[.int .i64 cd2, .int .u64 a2, .int .u64 b2, .int .i64 al2, .slice B m cb]] w fun e w' => e = .returned (.bool (decide (cd = cd2) && decide (a = a2) && decide (b = b2) && decide (al = al2) && decide (l = l2))) ∧ Below w.heap.size w w' := by
  have HE := Lib.hid he
  have hb2 : Below w.heap.size w ((w.alloc (.cells #[.int .i64 cd, .int .u64 a, .int .u64 b, .int .i64 al, .slice A n ca] 104)).alloc (.cells #[.int .i64 cd2, .int .u64 a2, .int .u64 b2, .int .i64 al2, .slice B m cb] 104)) := ((Below.refl _ _).alloc (Nat.le_refl _) _).alloc (by simp) _
  have HB2 := Lib.hid hb2
  clear he ha hb hb2
  by_cases hcd : cd = cd2
  case neg =>
    have hc : (cd == cd2) = false := by simp [hcd]
    have hr : (decide (cd = cd2) && decide (a = a2) && decide (b = b2) && decide (al = al2) && decide (l = l2)) = false := by simp [hcd]
    rw [hr]
    clear hcd hr
    go_enter Try.func34, Try.ntmps34
    go_wp2
    go_ret
    exact ⟨rfl, HB2.out⟩
  subst hcd
  by_cases ha : a = a2
  case neg =>
    have hc : (a == a2) = false := by simp [ha]
    have hr : (decide (cd = cd) && decide (a = a2) && decide (b = b2) && decide (al = al2) && decide (l = l2)) = false := by simp [ha]
    rw [hr]
    clear ha hr
    go_enter Try.func34, Try.ntmps34
    go_wp2
    go_ret
    exact ⟨rfl, HB2.out⟩
  subst ha
  by_cases hb : b = b2
  case neg =>
    have hc : (b == b2) = false := by simp [hb]
    have hr : (decide (cd = cd) && decide (a = a) && decide (b = b2) && decide (al = al2) && decide (l = l2)) = false := by simp [hb]
    rw [hr]
    clear hb hr
    go_enter Try.func34, Try.ntmps34
    go_wp2
    go_ret
    exact ⟨rfl, HB2.out⟩
  subst hb
  by_cases hal : al = al2
  case neg =>
    have hc : (al == al2) = false := by simp [hal]
    have hr : (decide (cd = cd) && decide (a = a) && decide (b = b) && decide (al = al2) && decide (l = l2)) = false := by simp [hal]
    rw [hr]
    clear hal hr
    go_enter Try.func34, Try.ntmps34
    go_wp2
    go_ret
    exact ⟨rfl, HB2.out⟩
  subst hal
  have hr : (decide (cd = cd) && decide (a = a) && decide (b = b) && decide (al = al) && decide (l = l2)) = decide (l = l2) := by simp
  rw [hr]
  clear hr
  go_enter Try.func34, Try.ntmps34
  go_wp2_with fail
  with_reducible refine (HE.out _ HB2.out).mono ?_
  rintro e w3 ⟨rfl, hb3⟩
  have HB3 := Lib.hid (HB2.out.trans (hb3.mono HB2.out.size))
  clear hb3
  go_wp2
  go_ret
  exact ⟨rfl, HB3.out⟩
set_option maxHeartbeats 4000000 in
set_option maxRecDepth 100000 in
theorem ElemSame0_ok (t t2 : Int) (A B : Option Addr) (n m ca cb : Nat) (l l2 : List Int) (hn : n ≤ 5000) (hm : m ≤ 5000) (w : World) (ha : Si w A n ca l) (hb : Si w B m cb l2)
    (he : ∀ W, Below w.heap.size w W → Calls Try.prog 55 #[.slice A n ca, .slice B m cb] W fun e w' => e = .returned (.bool (decide (l = l2))) ∧ Below W.heap.size W w') :
    Calls Try.prog 54 #[.agg #[.int .u64 t, .slice A n ca], .agg #[.int .u64 t2, .slice B m cb]] w fun e w' => e = .returned (.bool (decide (t = t2) && decide (l = l2))) ∧ Below w.heap.size w w' := by
  have HE := Lib.hid he
  have hb2 : Below w.heap.size w ((w.alloc (.cells #[.int .u64 t, .slice A n ca] 82)).alloc (.cells #[.int .u64 t2, .slice B m cb] 82)) := ((Below.refl _ _).alloc (Nat.le_refl _) _).alloc (by simp) _
  have HB2 := Lib.hid hb2
  clear he ha hb hb2
  by_cases ht : t = t2
  case neg =>
    have hc : (t == t2) = false := by simp [ht]
    have hr : (decide (t = t2) && decide (l = l2)) = false := by simp [ht]
    rw [hr]
    clear ht hr
    go_enter Try.func54, Try.ntmps54
    go_wp2
    go_ret
    exact ⟨rfl, HB2.out⟩
  subst ht
  have hr : (decide (t = t) && decide (l = l2)) = decide (l = l2) := by simp
  rw [hr]
  clear hr
  go_enter Try.func54, Try.ntmps54
  go_wp2_with fail
  with_reducible refine (HE.out _ HB2.out).mono ?_
  rintro e w3 ⟨rfl, hb3⟩
  have HB3 := Lib.hid (HB2.out.trans (hb3.mono HB2.out.size))
  clear hb3
  go_wp2
  go_ret
  exact ⟨rfl, HB3.out⟩
set_option maxHeartbeats 4000000 in
set_option maxRecDepth 100000 in
theorem DataSame0_ok (me me2 : Int) (t t2 : Int) (A B : Option Addr) (n m ca cb : Nat) (l l2 : List Nat) (hn : n ≤ 5000) (hm : m ≤ 5000) (w : World) (ha : Byt w A n ca l) (hb : Byt w B m cb l2)
    (he : ∀ W, Below w.heap.size w W → Calls Try.prog 57 #[.slice A n ca, .slice B m cb] W fun e w' => e = .returned (.bool (decide (l = l2))) ∧ Below W.heap.size W w') :
    Calls Try.prog 56 #[.agg #[.int .i64 me, .int .u64 t, .slice A n ca], .agg #[.int .i64 me2, .int .u64 t2, .slice B m cb]] w fun e w' => e = .returned (.bool (decide (me = me2) && decide (t = t2) && decide (l = l2))) ∧ Below w.heap.size w w' := by
  have HE := Lib.hid he
  have hb2 : Below w.heap.size w ((w.alloc (.cells #[.int .i64 me, .int .u64 t, .slice A n ca] 84)).alloc (.cells #[.int .i64 me2, .int .u64 t2, .slice B m cb] 84)) := ((Below.refl _ _).alloc (Nat.le_refl _) _).alloc (by simp) _
  have HB2 := Lib.hid hb2
  clear he ha hb hb2
  by_cases hme : me = me2
  case neg =>
    have hc : (me == me2) = false := by simp [hme]
    have hr : (decide (me = me2) && decide (t = t2) && decide (l = l2)) = false := by simp [hme]
    rw [hr]
    clear hme hr
    go_enter Try.func56, Try.ntmps56
    go_wp2
    go_ret
    exact ⟨rfl, HB2.out⟩
  subst hme
  by_cases ht : t = t2
  case neg =>
    have hc : (t == t2) = false := by simp [ht]
    have hr : (decide (me = me) && decide (t = t2) && decide (l = l2)) = false := by simp [ht]
    rw [hr]
    clear ht hr
    go_enter Try.func56, Try.ntmps56
    go_wp2
    go_ret
    exact ⟨rfl, HB2.out⟩
  subst ht
  have hr : (decide (me = me) && decide (t = t) && decide (l = l2)) = decide (l = l2) := by simp
  rw [hr]
  clear hr
  go_enter Try.func56, Try.ntmps56
  go_wp2_with fail
  with_reducible refine (HE.out _ HB2.out).mono ?_
  rintro e w3 ⟨rfl, hb3⟩
  have HB3 := Lib.hid (HB2.out.trans (hb3.mono HB2.out.size))
  clear hb3
  go_wp2
  go_ret
  exact ⟨rfl, HB3.out⟩
theorem IRow.cells {w : World} {A : Option Addr} {m c : Nat} {X : Nat → In} (h : IRow w A m c X) : ∃ (sa : Nat → Option Addr) (sc : Nat → Nat), Cells 5 w A m c (fun i j => [.int .i64 (X i).cd, .int .u64 (X i).a, .int .u64 (X i).b, .int .i64 (X i).al, .slice (sa i) (X i).l.length (sc i)].getD j undef) ∧ ∀ i, i < m → Sl w (sa i) (X i).l.length (sc i) (X i).l := by
  obtain ⟨h1, h2, h3⟩ := h
  rcases Nat.eq_zero_or_pos m with h0 | h0
  · exact ⟨fun _ => none, fun _ => 0, ⟨h1, h2, fun q => absurd q (by omega)⟩, fun i q => absurd q (by omega)⟩
  · obtain ⟨b, off, e, hl, hi⟩ := h3 h0
    have hex : ∀ i, ∃ s : Option Addr × Nat, i < m → w.cell? ⟨b, off + i * 5 + 4, none⟩ = some (.slice s.1 (X i).l.length s.2) ∧ Sl w s.1 (X i).l.length s.2 (X i).l := fun i => by
      by_cases q : i < m
      · obtain ⟨B, cp, _, _, _, _, g4, g5⟩ := hi i q
        exact ⟨(B, cp), fun _ => ⟨g4, g5⟩⟩
      · exact ⟨(none, 0), fun q' => absurd q' q⟩
    refine ⟨fun i => (Classical.choose (hex i)).1, fun i => (Classical.choose (hex i)).2, ⟨h1, h2, fun _ => ⟨b, off, e, hl, fun i q j hj => ?_⟩⟩, fun i q => (Classical.choose_spec (hex i) q).2⟩
    obtain ⟨_, _, g0, g1, g2, g3, _, _⟩ := hi i q
    have g4 := (Classical.choose_spec (hex i) q).1
    rcases j with _ | _ | _ | _ | _ | j
    · exact g0
    · exact g1
    · exact g2
    · exact g3
    · exact g4
    · omega
theorem InstrRows_ok (A B : Option Addr) (n m ca cb : Nat) (X Y : Nat → In) (hn : n ≤ 1000) (hm : m ≤ 1000) (hx : ∀ i, i < n → (X i).l.length ≤ 1000) (hy : ∀ i, i < m → (Y i).l.length ≤ 1000) (w : World) (ha : IRow w A n ca X) (hb : IRow w B m cb Y) :
    Calls Try.prog 33 #[.slice A n ca, .slice B m cb, .func (.func 34) #[] #[]] w fun e w' => e = .returned (.bool (eqL n m fun i => eqI (X i) (Y i))) ∧ Below w.heap.size w w' := by
  obtain ⟨sa, sc, h1, h2⟩ := ha.cells
  obtain ⟨ta, tc, h3, h4⟩ := hb.cells
  exact EqFInstr_ok A B n m ca cb (fun i => (X i).cd) (fun i => (X i).a) (fun i => (X i).b) (fun i => (X i).al) sa (fun i => (X i).l.length) sc (fun i => (Y i).cd) (fun i => (Y i).a) (fun i => (Y i).b) (fun i => (Y i).al) ta (fun i => (Y i).l.length) tc (fun i => eqI (X i) (Y i)) hn hm w h1 h3
    (fun W hW i hi hi2 => InstrSame0_ok (X i).cd (Y i).cd (X i).a (Y i).a (X i).b (Y i).b (X i).al (Y i).al (sa i) (ta i) (X i).l.length (Y i).l.length (sc i) (tc i) (X i).l (Y i).l (Nat.le_trans (hx i hi) (by omega)) (Nat.le_trans (hy i hi2) (by omega)) W ((h2 i hi).below hW) ((h4 i hi2).below hW)
      (fun W2 hW2 => Equal49_ok _ _ _ _ _ _ _ _ (hx i hi) (hy i hi2) W2 (((h2 i hi).below hW).below hW2) (((h4 i hi2).below hW).below hW2)))
set_option maxHeartbeats 4000000 in
set_option maxRecDepth 100000 in
theorem CodeSame_ok (LA LB IA IB : Option Addr) (n m ca cb p q cp cq : Nat) (lc lc2 : List Nat) (X Y : Nat → In) (hn : n ≤ 1000) (hm : m ≤ 1000) (hp : p ≤ 1000) (hq : q ≤ 1000) (hx : ∀ i, i < p → (X i).l.length ≤ 1000) (hy : ∀ i, i < q → (Y i).l.length ≤ 1000) (w : World)
    (ha : Byt w LA n ca lc) (hb : Byt w LB m cb lc2) (hi : IRow w IA p cp X) (hj : IRow w IB q cq Y) :
    Calls Try.prog 20 #[.agg #[.slice LA n ca, .slice IA p cp], .agg #[.slice LB m cb, .slice IB q cq]] w fun e w' => e = .returned (.bool (eqB lc lc2 p q X Y)) ∧ Below w.heap.size w w' := by
  have H1 := Lib.hid (fun W (h : Below w.heap.size w W) => Equal_ok LA LB n m ca cb lc lc2 hn hm W (ha.below h) (hb.below h))
  have H2 := Lib.hid (fun W (h : Below w.heap.size w W) => InstrRows_ok IA IB p q cp cq X Y hp hq hx hy W (hi.below h) (hj.below h))
  have HB2 : Hid (Below w.heap.size w ((w.alloc (.cells #[.slice LA n ca, .slice IA p cp] 67)).alloc (.cells #[.slice LB m cb, .slice IB q cq] 67))) := Lib.hid (((Below.refl _ _).alloc (Nat.le_refl _) _).alloc (by simp) _)
  have hx0 := ((Blk.new w 67 #[.slice LA n ca, .slice IA p cp]).alloc (.cells #[.slice LB m cb, .slice IB q cq] 67))
  have hy0 := Blk.new (w.alloc (.cells #[.slice LA n ca, .slice IA p cp] 67)) 67 #[.slice LB m cb, .slice IB q cq]
  have HX0 := Lib.hid hx0
  have HY0 := Lib.hid hy0
  unfold eqB
  clear ha hb hi hj hx0 hy0
  cases hc : decide (lc = lc2) with
  | false =>
    rw [hc] at H1
    rw [Bool.false_and]
    clear H2 hc
    go_enter Try.func20, Try.ntmps20
    go_wp2_with fail
    with_reducible refine (H1.out _ HB2.out).mono ?_
    rintro e w3 ⟨rfl, hb3⟩
    have HB3 := Lib.hid (HB2.out.trans (hb3.mono HB2.out.size))
    clear hb3
    go_wp2
    go_ret
    exact ⟨rfl, HB3.out⟩
  | true =>
    rw [hc] at H1
    rw [Bool.true_and]
    clear hc
    go_enter Try.func20, Try.ntmps20
    go_wp2_with fail
    with_reducible refine (H1.out _ HB2.out).mono ?_
    rintro e w3 ⟨rfl, hb3⟩
    have HB3 := Lib.hid (HB2.out.trans (hb3.mono HB2.out.size))
    have x1 := (HX0.out.below hb3 HX0.out.lt).cell 1
    have y1 : w3.cell? ⟨w.heap.size + 1, 1, none⟩ = some (.slice IB q cq) := by
      have h := (HY0.out.below hb3 HY0.out.lt).cell 1
      rw [World.size_alloc] at h
      exact h
    clear hb3
    go_wp2_with fail
    with_reducible refine (H2.out _ HB3.out).mono ?_
    rintro e w4 ⟨rfl, hb4⟩
    have HB4 := Lib.hid (HB3.out.trans (hb4.mono HB3.out.size))
    clear hb4
    go_wp2
    go_ret
    exact ⟨rfl, HB4.out⟩
set_option maxHeartbeats 4000000 in
set_option maxRecDepth 100000 in
theorem FuncSame0_ok (s s2 : Int) (LA LB IA IB : Option Addr) (n m ca cb p q cp cq : Nat) (r : Bool) (w : World)
    (he : ∀ W, Below w.heap.size w W → Calls Try.prog 20 #[.agg #[.slice LA n ca, .slice IA p cp], .agg #[.slice LB m cb, .slice IB q cq]] W fun e w' => e = .returned (.bool r) ∧ Below W.heap.size W w') :
    Calls Try.prog 50 #[.agg #[.int .i64 s, .slice LA n ca, .slice IA p cp], .agg #[.int .i64 s2, .slice LB m cb, .slice IB q cq]] w fun e w' => e = .returned (.bool (decide (s = s2) && r)) ∧ Below w.heap.size w w' := by
  have HE := Lib.hid he
  have HB2 : Hid (Below w.heap.size w ((w.alloc (.cells #[.int .i64 s, .slice LA n ca, .slice IA p cp] 69)).alloc (.cells #[.int .i64 s2, .slice LB m cb, .slice IB q cq] 69))) := Lib.hid (((Below.refl _ _).alloc (Nat.le_refl _) _).alloc (by simp) _)
  clear he
  by_cases h : s = s2
  case neg =>
    have hc : (s == s2) = false := by simp [h]
    have hr : (decide (s = s2) && r) = false := by simp [h]
    rw [hr]
    clear h hr
    go_enter Try.func50, Try.ntmps50
    go_wp2
    go_ret
    exact ⟨rfl, HB2.out⟩
  subst h
  have hr : (decide (s = s) && r) = r := by simp
  rw [hr]
  clear hr
  go_enter Try.func50, Try.ntmps50
  go_wp2_with fail
  with_reducible refine (HE.out _ HB2.out).mono ?_
  rintro e w3 ⟨rfl, hb3⟩
  have HB3 := Lib.hid (HB2.out.trans (hb3.mono HB2.out.size))
  clear hb3
  go_wp2
  go_ret
  exact ⟨rfl, HB3.out⟩
end Go.Proofs.Ytackompihengfaa
