/-
  The document's own divide, in numbers: for WordBinary.
-/
import Derived.Test.YtmbnaejoiglckaaRl
namespace Go.Proofs.Ytmbnaejoiglckaa
open Go.RowKit
set_option linter.unusedVariables false
set_option linter.unusedSimpArgs false
set_option maxHeartbeats 1000000 in
set_option maxRecDepth 100000 in
theorem less_65 (g1 c1 g2 c2 n : Nat) (f1 f2 : Nat → Bool) (w : World) (hn2 : n ≤ 65) (hc1 : n ≤ c1) (hc2 : n ≤ c2) (hd1 : c1 ≤ 9223372036854775807) (hd2 : c2 ≤ 9223372036854775807) (h1 : Bo w g1 n f1) (h2 : Bo w g2 n f2) :
    Calls Try.prog 36 #[.slice (some ⟨g1, 0, none⟩) n c1, .slice (some ⟨g2, 0, none⟩) n c2] w fun e w' => e = .returned (.bool (decide (vl f1 0 n < vl f2 0 n))) ∧ Below w.heap.size w w' := by
  have H1 := Lib.hid h1
  have H2 := Lib.hid h2
  clear h1 h2
  go_enter Try.func36, Try.ntmps36
  go_wp2
  go_loopw [5] (fun v5 wr => ∃ k : Nat, k ≤ n ∧ v5 = .int .i64 ((k : Int) - 1) ∧ Hid (∀ i, k ≤ i → i < n → f1 i = f2 i) ∧ Hid (Below w.heap.size w wr)) (fun v5 _ => (intOf v5 + 1).toNat)
  case atStart => exact ⟨n, Nat.le_refl _, rfl, Lib.hid (fun i a b => by omega), Lib.hid (Below.refl _ _)⟩
  case round =>
    obtain ⟨k, hk, rfl, HE, HBl⟩ := hrel
    have HS := Lib.hid (vl_same f1 f2 k n hk HE.out)
    rcases Nat.eq_zero_or_pos k with hk0 | hk0
    · subst hk0
      go_wp2
      go_ret
      exact ⟨ret_bool (by
        symm
        rw [decide_eq_false_iff_not, HS.out]
        exact Nat.lt_irrefl 0), HBl.out⟩
    · obtain ⟨j, rfl⟩ : ∃ j, k = j + 1 := ⟨k - 1, by omega⟩
      have d1 := (H1.out.below HBl.out H1.out.1).2 j (by omega)
      have d2 := (H2.out.below HBl.out H2.out.1).2 j (by omega)
      have HD := Lib.hid (vl_differ f1 f2 j)
      have HE2 : Hid (f1 j = f2 j → ∀ i, j ≤ i → i < n → f1 i = f2 i) := Lib.hid (fun e i a b => by
        rcases Nat.eq_or_lt_of_le a with q | q
        · rw [← q]; exact e
        · exact HE.out i q b)
      obtain ⟨x, ex⟩ : ∃ b, b = f1 j := ⟨_, rfl⟩
      obtain ⟨y, ey⟩ : ∃ b, b = f2 j := ⟨_, rfl⟩
      rw [← ex] at d1 HD HE2
      rw [← ey] at d2 HD HE2
      clear ex ey
      cases x <;> cases y
      · go_wp2
        go_quiet (fail)
        go_wp2
        go_round
        case rel => exact ⟨j, by omega, by go_num, Lib.hid (HE2.out trivial), Lib.hid (drew_below HBl.out _)⟩
        case measure => simp [intOf]
      · go_wp2
        go_quiet (fail)
        go_wp2
        go_ret
        exact ⟨ret_bool (by symm; rw [decide_eq_true_iff, HS.out]; exact (HD.out (by simp)).2 (by simp)), drew_below HBl.out _⟩
      · go_wp2
        go_quiet (fail)
        go_wp2
        go_ret
        exact ⟨ret_bool (by symm; rw [decide_eq_false_iff_not, HS.out]; exact fun h => by have := (HD.out (by simp)).1 h; simp at this), drew_below HBl.out _⟩
      · go_wp2
        go_quiet (fail)
        go_wp2
        go_round
        case rel => exact ⟨j, by omega, by go_num, Lib.hid (HE2.out trivial), Lib.hid (drew_below HBl.out _)⟩
        case measure => simp [intOf]

theorem own_empty (w : World) (B : Nat) (hB : B ≤ w.heap.size) : (w.alloc (.cells #[] 4)).ownsRow B 4 1 (.slice (some ⟨w.heap.size, 0, none⟩) 0 0) 0 [] :=
  ⟨rfl, .inr ⟨w.heap.size, 0, #[], rfl, hB, heap_alloc_new w _, Nat.le_refl _, Nat.zero_le _, rfl, rfl⟩⟩
theorem bo_news {w : World} {g m : Nat} {f : Nat → Bool} (h : Bo w g m f) (o : Obj) : ∀ j u, (BL f m)[j]? = some u → (w.alloc o).cell? ((⟨g, 0, none⟩ : Addr).add j) = some u := by
  intro j u hu
  have hj : j < m := by
    have := (List.getElem?_eq_some_iff.1 hu).1
    simpa [BL] using this
  rw [BL_at f hj] at hu
  rw [addr_add, Nat.zero_add, ((Below.refl w.heap.size w).alloc (Nat.le_refl _) o).cell (p := ⟨g, j, none⟩) h.1, h.2 j hj]
  exact hu
theorem BL_len (f : Nat → Bool) (m : Nat) : (BL f m).length = m * 1 := by simp [BL]
theorem BL_one (f : Nat → Bool) (m : Nat) : ∀ u ∈ BL f m, u.oneCell' = true := by
  intro u hu
  unfold BL at hu
  rw [List.mem_map] at hu
  obtain ⟨i, _, rfl⟩ := hu
  rfl
theorem fz_below {w w' : World} {B g : Nat} (h : ∀ i, w.frozen? ⟨g, i, none⟩ = false) (hb : Below B w w') (hg : g < B) : ∀ i, w'.frozen? ⟨g, i, none⟩ = false := by
  intro i
  rw [← h i]
  unfold World.frozen?
  rw [hb.block g hg]
theorem Bo.far {w : World} {g n : Nat} {f : Nat → Bool} (h : Bo w g n f) {p : Addr} (hp : g ≠ p.block) (v : Value) : Bo (w.setCell p v) g n f := by
  refine ⟨by have := h.1; simpa [World.setCell] using this, fun i hi => ?_⟩
  rw [World.cell?_setCell_other w p ⟨g, i, none⟩ v (fun e => hp (by rw [e]))]
  exact h.2 i hi
theorem Bo.set_ {w : World} {g n j : Nat} {f f' : Nat → Bool} (h : Bo w g n f) (hj : j < n) (b : Bool) (hf : ∀ i, f' i = if i = j then b else f i) : Bo (w.setCell ⟨g, j, none⟩ (.bool b)) g n f' := by
  refine ⟨by have := h.1; simpa [World.setCell] using this, fun i hi => ?_⟩
  rw [hf i]
  by_cases e : i = j
  · subst e
    rw [if_pos rfl]
    exact World.cell?_setCell_same w _ _ (h.2 i hi)
  · rw [if_neg e, World.cell?_setCell_other w ⟨g, j, none⟩ ⟨g, i, none⟩ _ (by intro q; injection q with _ q; exact e q.symm)]
    exact h.2 i hi
theorem fz_set {w : World} {g : Nat} (h : ∀ i, w.frozen? ⟨g, i, none⟩ = false) (p : Addr) (v : Value) : ∀ i, (w.setCell p v).frozen? ⟨g, i, none⟩ = false := fun i => by
  rw [World.frozen?_setCell]; exact h i
/-- a bit put in front -/
theorem bt_front (R : Nat) (b : Bool) (i : Nat) : bt (2 * R + b.toNat) i = if i = 0 then b else bt (2 * R) i := by
  have hb : b.toNat ≤ 1 := by cases b <;> simp
  rcases i with _ | i
  · rw [if_pos rfl]; unfold bt; rw [Nat.pow_zero, Nat.div_one]
    cases b <;> simp [Nat.add_mod]
  · rw [if_neg (by omega)]
    unfold bt
    rw [Nat.pow_succ, Nat.mul_comm (2 ^ i) 2, ← Nat.div_div_eq_div_mul, ← Nat.div_div_eq_div_mul, show (2 * R + b.toNat) / 2 = R by omega, show 2 * R / 2 = R by omega]
/-- a bit put in -/
theorem bt_put (q j i : Nat) : bt (q * 2 ^ (j + 1) + 2 ^ j) i = if i = j then true else bt (q * 2 ^ (j + 1)) i := by
  have h : q * 2 ^ (j + 1) + 2 ^ j = 2 ^ (j + 1) * q ||| 2 ^ j := by
    rw [← Nat.two_pow_add_eq_or_of_lt (Nat.pow_lt_pow_right (by decide) (Nat.lt_succ_self j)), Nat.mul_comm]
  rw [h, bt_test, bt_test, Nat.testBit_or, Nat.testBit_two_pow, Nat.mul_comm q]
  by_cases e : i = j
  · subst e; simp
  · rw [if_neg e]; simp; omega
/-- how often, and the rest -/
def DPost (B n x y : Nat) (w : World) (e : Ending) (w' : World) : Prop :=
  ∃ g g' cp, e = .returned (.tuple #[.slice (some ⟨g, 0, none⟩) n n, .slice (some ⟨g', 0, none⟩) n cp]) ∧ n ≤ cp ∧ cp ≤ 9223372036854775807 ∧ Bo w' g n (bt (x / y)) ∧ Bo w' g' n (bt (x % y)) ∧ B ≤ g ∧ B ≤ g' ∧ Below B w w'
set_option maxHeartbeats 8000000 in
set_option maxRecDepth 100000 in
theorem Divide_v (g1 c1 g2 c2 n x y : Nat) (w : World) (hn : 1 ≤ n) (hn2 : n ≤ 64) (hc1 : n ≤ c1) (hc2 : n ≤ c2) (hd1 : c1 ≤ 9223372036854775807) (hd2 : c2 ≤ 9223372036854775807) (hx : x < 2 ^ n) (hy : y < 2 ^ n) (h0 : y ≠ 0) (h1 : Bo w g1 n (bt x)) (h2 : Bo w g2 n (bt y)) :
    Calls Try.prog 26 #[.slice (some ⟨g1, 0, none⟩) n c1, .slice (some ⟨g2, 0, none⟩) n c2] w (DPost w.heap.size n x y w) := by
  obtain ⟨i0, hi, hz0, hz1, hz2⟩ := info4_parts
  have hmk1 := fun W : World => run_mk n (by omega) W
  have hmk2 := fun W : World => run_mk (n + 1) (by omega) W
  rw [Int.natCast_add, Int.natCast_one] at hmk2
  have hp : 2 ^ (n + 1) = 2 * 2 ^ n := by rw [Nat.pow_succ, Nat.mul_comm]
  have H1 := Lib.hid h1
  have H2 := Lib.hid h2
  have HS : Hid (BL (bt y) (n + 1) = BL (bt y) n ++ [Value.bool false]) := Lib.hid (by
    rw [BL_succ]; congr 2
    unfold bt; rw [Nat.div_eq_of_lt hy]; simp)
  have Z : Hid (x / 2 ^ n % y = 0 ∧ x / 2 ^ n / y * 2 ^ n = 0) := Lib.hid (by rw [Nat.div_eq_of_lt hx]; simp)
  have SH := Lib.hid (fun (W : World) (g c R : Nat) (hR : R < y) (a1 : n + 1 ≤ c) (a2 : c ≤ 9223372036854775807) (b : Bo W g (n + 1) (bt R)) => show Calls Try.prog 28 #[.slice (some ⟨g, 0, none⟩) (n + 1 : Nat) c, .int .i64 1, .bool false] W (FPost W.heap.size (n + 1) (2 * R) W) from by
    have := Left_v g c (n + 1) R 1 W (by omega) (by omega) (by omega) a1 a2 (by omega) b
    rw [Nat.pow_one, Nat.mul_comm R 2, Nat.mod_eq_of_lt (by omega)] at this
    exact this)
  have HL := Lib.hid (fun (W : World) (g c gd cd V : Nat) (hV : V < 2 ^ (n + 1)) (a1 : n + 1 ≤ c) (a2 : c ≤ 9223372036854775807) (a3 : n + 1 ≤ cd) (a4 : cd ≤ 9223372036854775807) (b1 : Bo W g (n + 1) (bt V)) (b2 : Bo W gd (n + 1) (bt y)) => show Calls Try.prog 36 #[.slice (some ⟨g, 0, none⟩) (n + 1 : Nat) c, .slice (some ⟨gd, 0, none⟩) (n + 1 : Nat) cd] W (fun e w' => e = .returned (.bool (decide (V < y))) ∧ Below W.heap.size W w') from by
    have := less_65 g c gd cd (n + 1) (bt V) (bt y) W (by omega) a1 a3 a2 a4 b1 b2
    rw [vl_self hV, vl_self (show y < 2 ^ (n + 1) by omega)] at this
    exact this)
  have HM := Lib.hid (fun (W : World) (g c gd cd V : Nat) (hV : V < 2 ^ (n + 1)) (hVy : y ≤ V) (a1 : n + 1 ≤ c) (a2 : c ≤ 9223372036854775807) (a3 : n + 1 ≤ cd) (a4 : cd ≤ 9223372036854775807) (b1 : Bo W g (n + 1) (bt V)) (b2 : Bo W gd (n + 1) (bt y)) => show Calls Try.prog 22 #[.slice (some ⟨g, 0, none⟩) (n + 1 : Nat) c, .slice (some ⟨gd, 0, none⟩) (n + 1 : Nat) cd] W (LPost W.heap.size (n + 1) (bt (V - y)) W) from by
    have := Minus_v g c gd cd (n + 1) V y W (by omega) (by omega) a1 a3 a2 a4 hV (by omega) b1 b2
    rw [show (V + 2 ^ (n + 1) - y) % 2 ^ (n + 1) = V - y from by
      rw [show V + 2 ^ (n + 1) - y = (V - y) + 2 ^ (n + 1) by omega, Nat.add_mod_right, Nat.mod_eq_of_lt (by omega)]] at this
    exact this)
  have HY := Lib.hid (And.intro hy (And.intro hp (Nat.pos_of_ne_zero h0)))
  have HMd := Lib.hid (fun h : Nat => Nat.mod_lt h (Nat.pos_of_ne_zero h0))
  clear h1 h2 hx hy hp h0
  obtain ⟨oq, eoq⟩ : ∃ o, o = Obj.cells (madeCells #[Value.bool false] n) 4 := ⟨_, rfl⟩
  obtain ⟨orr, eor⟩ : ∃ o, o = Obj.cells (madeCells #[Value.bool false] (n + 1)) 4 := ⟨_, rfl⟩
  rw [← eoq] at hmk1
  rw [← eor] at hmk2
  have EOQ := Lib.hid eoq
  have EOR := Lib.hid eor
  have HBQ : Hid (Bo (w.alloc oq) w.heap.size n (bt 0) ∧ ∀ i, (w.alloc oq).frozen? ⟨w.heap.size, i, none⟩ = false) := Lib.hid (by rw [eoq]; exact ⟨bo_made w n, fz_made w n⟩)
  have HBR : Hid (Bo ((w.alloc oq).alloc orr) (w.alloc oq).heap.size (n + 1) (bt 0)) := Lib.hid (by rw [eor]; exact bo_made _ (n + 1))
  have HB2 : Hid (Below w.heap.size w ((w.alloc oq).alloc orr)) := Lib.hid (((Below.refl _ w).alloc (Nat.le_refl _) _).alloc (by rw [World.size_alloc]; omega) _)
  have hsz : (w.alloc oq).heap.size = w.heap.size + 1 := World.size_alloc _ _
  have hsz2 : ((w.alloc oq).alloc orr).heap.size = w.heap.size + 2 := by rw [World.size_alloc, hsz]
  rw [hsz] at HBR
  have HW : Hid (Below (w.heap.size + 1) (w.alloc oq) ((w.alloc oq).alloc orr)) := Lib.hid ((Below.refl _ _).alloc (by rw [hsz]; exact Nat.le_refl _) _)
  clear eoq eor
  have HOE : Hid ((((w.alloc oq).alloc orr).alloc (.cells #[] 4)).ownsRow (w.heap.size + 2) 4 1 (.slice (some ⟨w.heap.size + 2, 0, none⟩) 0 0) 0 []) := Lib.hid (by
    have := own_empty ((w.alloc oq).alloc orr) (w.heap.size + 2) (by rw [hsz2]; exact Nat.le_refl _)
    rw [hsz2] at this
    exact this)
  go_enter Try.func26, Try.ntmps26
  go_wp2_with (at_builtin; refine wpList_append_own _ rfl (.tmp 18) (.tmp 19) 41 rfl (w.heap.size + 2) 4 i0 _ 1 1 Try.underlying41 hi hz0 hz1 hz2 rfl (by decide) _ 0 [] rfl HOE.out ⟨g2, 0, none⟩ n c2 (BL (bt y) n) rfl (BL_len _ _) (bo_news (H2.out.below HB2.out H2.out.1) _) (BL_one _ _) ?c3 ?c4 ?c5 ?_)
  case c3 => unfold maxLen; omega
  case c4 => omega
  case c5 => simp
  intro v1 w3 hown1 hg1 _
  have HB3 : Hid (Below ((w.alloc oq).alloc orr).heap.size ((w.alloc oq).alloc orr) w3) := Lib.hid (((Below.refl _ _).alloc (Nat.le_refl _) _).grown hg1 (by simp) (fun j hj => by injection hj with e; rw [← e, hsz2]; exact Nat.le_refl _))
  have HO3 := Lib.hid hown1
  clear hown1 hg1
  go_wp2_with (at_builtin; refine wpList_append_own _ rfl (.tmp 20) (.tmp 21) 41 rfl (w.heap.size + 2) 4 i0 _ 1 1 Try.underlying41 hi hz0 hz1 hz2 rfl (by decide) _ n _ rfl (HO3.out.alloc _) ⟨w3.heap.size, 0, none⟩ 1 1 [Value.bool false] rfl rfl (cell_new _ _ _) ?d2 ?d3 ?d4 ?d5 ?_)
  case d2 => first | (intro u hu; simp at hu; subst hu; rfl) | rfl
  case d3 => unfold maxLen; omega
  case d4 => omega
  case d5 => have := HB3.out.size; simp; omega
  intro v2 w4 hown2 hg2 _
  have HB4 : Hid (Below ((w.alloc oq).alloc orr).heap.size ((w.alloc oq).alloc orr) w4) := Lib.hid (own_below HB3.out HB3.out.size (by rw [hsz2]; exact HO3.out) hg2)
  obtain ⟨gd, cd, rfl, nd, md, bd, kd⟩ := bo_of_own (f := bt y) (by rw [HS.out]; exact hown2) (by omega)
  have md' : cd ≤ 9223372036854775807 := by unfold maxLen at md; omega
  have HBD := Lib.hid bd
  have HKD : Hid (w.heap.size + 2 ≤ gd) := Lib.hid kd
  clear kd
  clear hown2 hg2 md bd HO3 HB3 HOE HS
  have hq4 : Hid (Bo w4 w.heap.size n (bt 0) ∧ (∀ i, w4.frozen? ⟨w.heap.size, i, none⟩ = false) ∧ Bo w4 (w.heap.size + 1) (n + 1) (bt 0) ∧ Below w.heap.size w w4) := Lib.hid (by
    have hb := HB4.out
    rw [hsz2] at hb
    have h1 := HBQ.out.1.below HW.out (by omega)
    have h2 := fz_below HBQ.out.2 HW.out (by omega)
    exact ⟨h1.below hb (by omega), fz_below h2 hb (by omega), HBR.out.below hb (by omega), HB2.out.trans (hb.mono (by omega))⟩)
  clear HBQ HBR HB2 HW HB4 hsz hsz2 hmk1 hmk2 EOQ EOR
  go_wp2
  go_loopw [8, 10] (fun v8 v10 wr => ∃ k g cp : Nat, k ≤ n ∧ v10 = .int .i64 ((k : Int) - 1) ∧ v8 = .slice (some ⟨g, 0, none⟩) (n + 1) cp ∧ n + 1 ≤ cp ∧ cp ≤ 9223372036854775807 ∧ w.heap.size < g ∧ Hid (Bo wr g (n + 1) (bt (x / 2 ^ k % y))) ∧ Hid (Bo wr w.heap.size n (bt (x / 2 ^ k / y * 2 ^ k)) ∧ (∀ i, wr.frozen? ⟨w.heap.size, i, none⟩ = false)) ∧ Hid (Bo wr gd (n + 1) (bt y)) ∧ Hid (Below w.heap.size w wr)) (fun _ v10 _ => (intOf v10 + 1).toNat)
  case atStart =>
    obtain ⟨q1, q2, q3, q4⟩ := hq4.out
    exact ⟨n, w.heap.size + 1, n + 1, Nat.le_refl _, rfl, rfl, Nat.le_refl _, by omega, by omega, Lib.hid (by rw [Z.out.1]; exact q3), Lib.hid ⟨by rw [Z.out.2]; exact q1, q2⟩, HBD, Lib.hid q4⟩
  case round =>
    clear hq4 HBD Z
    obtain ⟨k, g, cp, hk, rfl, rfl, hcp, hcp2, hg, HR, HQ, HD, HBl⟩ := hrel
    rcases Nat.eq_zero_or_pos k with hk0 | hk0
    · subst hk0
      have E0 : Hid (x / 2 ^ 0 % y = x % y ∧ x / 2 ^ 0 / y * 2 ^ 0 = x / y) := Lib.hid (by simp)
      go_wp2
      go_quiet (fail)
      go_wp2
      go_ret2
      exact ⟨_, g, cp, rfl, by omega, hcp2, by rw [← E0.out.2]; exact HQ.out.1, by rw [← E0.out.1]; exact ⟨HR.out.1, fun i hi => HR.out.2 i (by omega)⟩, Nat.le_refl _, by omega, drew_below HBl.out _⟩
    · obtain ⟨j, rfl⟩ : ∃ j, k = j + 1 := ⟨k - 1, by omega⟩
      have hjn : j < n := by omega
      have dx := (H1.out.below HBl.out H1.out.1).2 j hjn
      obtain ⟨hy, hp, hpos⟩ := HY.out
      have hRy := HMd.out (x / 2 ^ (j + 1))
      have hdb := div_bit x j
      have hno := div_no (h := x / 2 ^ (j + 1)) (c := (bt x j).toNat) hpos
      have hye := div_yes (h := x / 2 ^ (j + 1)) (c := (bt x j).toNat) hpos (by cases bt x j <;> simp)
      obtain ⟨b, eb⟩ : ∃ b, b = bt x j := ⟨_, rfl⟩
      rw [← eb] at dx hdb hno hye
      have hb1 : b.toNat ≤ 1 := by cases b <;> simp
      have hput := fun q i => bt_put q j i
      obtain ⟨H, eH⟩ : ∃ H, H = x / 2 ^ (j + 1) := ⟨_, rfl⟩
      rw [← eH] at hRy hdb hno hye HR HQ
      obtain ⟨R, eR⟩ : ∃ R, R = H % y := ⟨_, rfl⟩
      rw [← eR] at hRy hno hye HR
      have hfr := fun i => bt_front R b i
      obtain ⟨V, eV⟩ : ∃ V, V = 2 * R + b.toNat := ⟨_, rfl⟩
      rw [← eV] at hno hye hfr
      have hV : V < 2 ^ (n + 1) := by omega
      have hgz := hg
      have SHc := Lib.hid (SH.out wr g cp R hRy hcp hcp2 HR.out)
      have HLc := Lib.hid (fun (W : World) (g' c' : Nat) (a1 : n + 1 ≤ c') (a2 : c' ≤ 9223372036854775807) (b1 : Bo W g' (n + 1) (bt V)) (b2 : Bo W gd (n + 1) (bt y)) => HL.out W g' c' gd cd V hV a1 a2 nd md' b1 b2)
      have HMc := Lib.hid (fun (W : World) (g' c' : Nat) (hVy : y ≤ V) (a1 : n + 1 ≤ c') (a2 : c' ≤ 9223372036854775807) (b1 : Bo W g' (n + 1) (bt V)) (b2 : Bo W gd (n + 1) (bt y)) => HM.out W g' c' gd cd V hV hVy a1 a2 nd md' b1 b2)
      have HFR := Lib.hid hfr
      have HPUT := Lib.hid hput
      have HKK := Lib.hid (show 2 ^ (j + 1) = 2 * 2 ^ j from by rw [Nat.pow_succ, Nat.mul_comm])
      have ARM : Hid (∀ (g3 : Nat) (w1 : World), wr.heap.size ≤ g3 → Bo w1 g3 (n + 1) (bt (2 * R)) → Below wr.heap.size wr w1 → (∀ i, w1.frozen? ⟨g3, i, none⟩ = false) →
          (∃ v0, w1.cell? ⟨g3, 0, none⟩ = some v0) ∧ Bo (w1.setCell ⟨g3, 0, none⟩ (.bool b)) g3 (n + 1) (bt V) ∧ Bo (w1.setCell ⟨g3, 0, none⟩ (.bool b)) gd (n + 1) (bt y) ∧ w1.cell? ⟨g1, j, none⟩ = some (.bool b) ∧ Below wr.heap.size wr (w1.setCell ⟨g3, 0, none⟩ (.bool b))) := Lib.hid (fun g3 w1 q1 q2 q3 q4 => by
        have hb' := q3.setCell (p := ⟨g3, 0, none⟩) q1 (.bool b)
        refine ⟨⟨_, q2.2 0 (by omega)⟩, q2.set_ (by omega) b HFR.out, HD.out.below hb' HD.out.lt, (q3.cell (p := ⟨g1, j, none⟩) (Nat.lt_of_lt_of_le H1.out.1 HBl.out.size)).trans dx, hb'⟩)
      have EV := Lib.hid eV
      have HNO := Lib.hid hno
      have HYE := Lib.hid hye
      have HDB := Lib.hid hdb
      have ER := Lib.hid eR
      have hgl : w.heap.size < wr.heap.size := HQ.out.1.lt
      clear hno hye hdb eR eH eb hfr hput hRy HR SH HL HM
      by_cases hlt : V < y
      · have HL1 : Hid (decide (V < y) = true) := Lib.hid (decide_eq_true hlt)
        have RES : Hid (x / 2 ^ j % y = V ∧ x / 2 ^ j / y * 2 ^ j = H / y * 2 ^ (j + 1)) := Lib.hid (by
          have h := HNO.out hlt
          rw [HDB.out, h.1, h.2, HKK.out]
          refine ⟨rfl, ?_⟩
          rw [Nat.mul_comm 2 (H / y), Nat.mul_assoc])
        clear eV
        go_wp2_with (first
          | (go_at_call 28; with_reducible refine SHc.out.mono ?_; rintro e w1 hL; unfold FPost at hL; obtain ⟨g3, c3, rfl, n3, m3, b3, k3, h3, z3⟩ := hL; obtain ⟨⟨v0, x0⟩, x1, x2, x3, x4⟩ := ARM.out g3 w1 k3 b3 h3 z3; have y0 := z3 0; have X1 := Lib.hid x1; have X2 := Lib.hid x2; have X4 := Lib.hid x4; clear b3 h3 z3 x1 x2 x4)
          | (go_at_call 36; with_reducible refine (HLc.out _ _ _ n3 m3 X1.out X2.out).mono ?_; rw [HL1.out]; rintro e w2 ⟨rfl, h2⟩; have H2' := Lib.hid h2; clear h2))
        go_roundw
        case rel =>
          have hbA := X4.out.trans (H2'.out.mono X4.out.size)
          exact ⟨j, g3, c3, by omega, by go_num, rfl, n3, m3, Nat.lt_of_lt_of_le hgl k3, Lib.hid (by rw [RES.out.1]; exact X1.out.below H2'.out X1.out.lt), Lib.hid ⟨by rw [RES.out.2]; exact HQ.out.1.below hbA hgl, fz_below HQ.out.2 hbA hgl⟩, Lib.hid (HD.out.below hbA HD.out.lt), Lib.hid (HBl.out.trans (hbA.mono HBl.out.size))⟩
        case measure => simp [intOf]
      · have HL1 : Hid (decide (V < y) = false) := Lib.hid (decide_eq_false hlt)
        have hVy : y ≤ V := by omega
        have RES : Hid (x / 2 ^ j % y = V - y ∧ x / 2 ^ j / y * 2 ^ j = H / y * 2 ^ (j + 1) + 2 ^ j) := Lib.hid (by
          have h := HYE.out hlt
          rw [HDB.out, h.1, h.2, HKK.out]
          refine ⟨rfl, ?_⟩
          rw [Nat.add_mul, Nat.one_mul, Nat.mul_comm 2 (H / y), Nat.mul_assoc])
        have HMy := Lib.hid (fun (W : World) (g' c' : Nat) => HMc.out W g' c' hVy)
        have ARQ : Hid (∀ w3 : World, Below wr.heap.size wr w3 → w3.cell? ⟨w.heap.size, j, none⟩ = some (.bool (bt (H / y * 2 ^ (j + 1)) j)) ∧ w3.frozen? ⟨w.heap.size, j, none⟩ = false) := Lib.hid (fun w3 hb => ⟨(HQ.out.1.below hb hgl).2 j hjn, fz_below HQ.out.2 hb hgl j⟩)
        clear eV hVy
        generalize hvq : bt (H / y * 2 ^ (j + 1)) j = vq at ARQ
        have HVQ := Lib.hid hvq
        clear hvq
        go_wp2_with (first
          | (go_at_call 28; with_reducible refine SHc.out.mono ?_; rintro e w1 hL; unfold FPost at hL; obtain ⟨g3, c3, rfl, n3, m3, b3, k3, h3, z3⟩ := hL; obtain ⟨⟨v0, x0⟩, x1, x2, x3, x4⟩ := ARM.out g3 w1 k3 b3 h3 z3; have y0 := z3 0; have X1 := Lib.hid x1; have X2 := Lib.hid x2; have X4 := Lib.hid x4; clear b3 h3 z3 x1 x2 x4)
          | (go_at_call 36; with_reducible refine (HLc.out _ _ _ n3 m3 X1.out X2.out).mono ?_; rw [HL1.out]; rintro e w2 ⟨rfl, h2⟩; have X1' := Lib.hid (X1.out.below h2 X1.out.lt); have X2' := Lib.hid (X2.out.below h2 X2.out.lt); have X5 := Lib.hid (X4.out.trans (h2.mono X4.out.size)); clear h2)
          | (go_at_call 22; with_reducible refine (HMy.out _ _ _ n3 m3 X1'.out X2'.out).mono ?_; rintro e w3 hL; unfold LPost at hL; obtain ⟨g4, c4, rfl, n4, m4, b4, k4, h4⟩ := hL; have X6 := Lib.hid (X5.out.trans (h4.mono X5.out.size)); obtain ⟨xq, zq⟩ := ARQ.out w3 X6.out; have K4 := Lib.hid (Nat.le_trans X5.out.size k4); have B4 := Lib.hid b4; clear h4 k4 b4))
        go_roundw
        case rel =>
          have hbA := X6.out
          have hg4 : w.heap.size < g4 := Nat.lt_of_lt_of_le hgl K4.out
          exact ⟨j, g4, c4, by omega, by go_num, rfl, n4, m4, hg4, Lib.hid (by rw [RES.out.1]; exact B4.out.far (by show g4 ≠ w.heap.size; omega) _), Lib.hid ⟨by rw [RES.out.2]; exact (HQ.out.1.below hbA hgl).set_ hjn true (HPUT.out (H / y)), fz_set (fz_below HQ.out.2 hbA hgl) _ _⟩, Lib.hid ((HD.out.below hbA HD.out.lt).far (by show gd ≠ w.heap.size; have := HKD.out; omega) _), Lib.hid ((HBl.out.trans (hbA.mono HBl.out.size)).setCell (p := ⟨w.heap.size, j, none⟩) (Nat.le_refl _) _)⟩
        case measure => simp [intOf]
end Go.Proofs.Ytmbnaejoiglckaa
