/-
  Texts of YtggfaalodojjkaaGreatDoorYB.
-/
import Derived.Test.YtggfaalodojjkaaGreatDoorY2
import Derived.Test.YtggfaalodojjkaaGreatDoorRows
import Derived.Shelf.Vars
import Derived.Outline
import Derived.Laws.Rows
import Derived.Laws.Tables
import Derived.ChangeMaps5
import Derived.Lib.LaidU8
import Derived.Test.YtggfaalodojjkaaGreatDoorY9
import Derived.Test.YtggfaalodojjkaaGreatDoorY8
namespace Go.Proofs.YtggfaalodojjkaaGreatDoor
open Go.RowKit Go.ChangeShapes Go.WideShapes Go.ChangeAt
set_option linter.unusedVariables false
set_option linter.unusedSimpArgs false
theorem tab_rows {P : Program} {w : World} {base : Nat} {sp : Nat → Bool} {held : Bool} {enc : TypeId × Value → Unit} {fuel : Nat} {t e : TypeId} {n m : Nat} {cs : List Value} {rows : List (List Int)} {p : List MemPlace}
    (ht : P.underlying t = some (.array n e)) (hc : P.cellsOf e = m) (hm : 0 < m) (hr : rows.length = n) (hl : ∀ r ∈ rows, r.length = m)
    (hct : P.cellsOf t = n * m) (he : ∀ (fuel' : Nat) (cs' : List Value) (zs : List Int) (p' : List MemPlace), DataW.trod enc P w base sp held fuel' e cs' = some (.agg (zs.map fun z => .lit (.int .i64 z)), p') → cs' = zs.map fun z => Value.int .i64 z)
    (h : DataW.trod enc P w base sp held fuel t cs = some (.agg (rows.map fun r => .agg (r.map fun z => .lit (.int .i64 z))), p)) : cs.length = n * m ∧ ∀ i r, rows[i]? = some r → (cs.drop (i * m)).take m = r.map fun z => Value.int .i64 z := by
  constructor
  · cases fuel with
    | zero => simp [DataW.trod] at h
    | succ fuel =>
      simp only [DataW.trod, ht, hc] at h
      split at h
      · rename_i hl'
        rw [← hct]; simpa using hl'
      · cases h
  · intro i r hir
    have hi : i < n := by rw [← hr]; exact (List.getElem?_eq_some_iff.1 hir).1
    obtain ⟨fuel', d, q, hd, hx⟩ := Lib.array_elem ht h i hi
    rw [List.getElem?_map, hir] at hd
    simp only [Option.map_some, Option.some.injEq] at hd
    subst hd
    rw [hc] at hx
    exact he _ _ _ _ hx
def forL : List (List Int) := [[28, 28], [37, 38], [42, 43], [56, 57], [67, 68], [91, 102], [139, 166], [168, 171], [174, 191], [208, 210], [253, 253], [64512, 64521], [64524, 64529]]
/-- a table lies in a block -/
def Tab (W : World) (g : Nat) (n m : Nat) (rows : List (List Int)) : Prop := ∃ cs t fr, W.heap[g]? = some (.cells cs t fr) ∧ cs.size = n * m ∧ ∀ i r, rows[i]? = some r → (cs.toList.drop (i * m)).take m = r.map fun z => Value.int .i64 z
theorem Tab.lt {W : World} {g n m : Nat} {rows : List (List Int)} (h : Tab W g n m rows) : g < W.heap.size := by
  obtain ⟨cs, t, fr, h, _⟩ := h
  rcases Nat.lt_or_ge g W.heap.size with h1 | h1
  · exact h1
  · rw [Array.getElem?_eq_none h1] at h; cases h
theorem Tab.below {W W' : World} {g n m B : Nat} {rows : List (List Int)} (h : Tab W g n m rows) (hb : Below B W W') (hg : g < B) : Tab W' g n m rows := by
  obtain ⟨cs, t, fr, h1, h2⟩ := h
  exact ⟨cs, t, fr, (hb.block g hg).trans h1, h2⟩
theorem heap_of_var {P : Program} {w : World} {name : String} {g : Nat} {cs : Array Value} (hg : P.globalNamed name = some g) (h : w.var? P name = some cs) : ∃ t fr, w.heap[g]? = some (.cells cs t fr) := by
  unfold World.var? at h
  rw [hg] at h
  simp only [Option.bind_some] at h
  split at h
  · rename_i c t fr he
    cases h
    exact ⟨t, fr, he⟩
  · cases h
theorem for_of {W : World} (h : Lib.VarReads Tryz.prog W "grommet/op.foreign" Rows.laid_grommet_op_foreign) : Tab W 1 13 2 forL := by
  obtain ⟨g, t, cs, fuel, p, hg, ht, hv, hd⟩ := h
  obtain rfl := Option.some.inj ((show Tryz.prog.globalNamed "grommet/op.foreign" = some 1 by kernel_rfl).symm.trans hg)
  obtain rfl := Option.some.inj ((show (Tryz.prog.globals[1]?).map (·.type) = some 189 by kernel_rfl).symm.trans ht)
  rw [show (Rows.laid_grommet_op_foreign : DataW Unit) = .agg (forL.map fun r => .agg (r.map fun z => .lit (.int .i64 z))) from rfl] at hd
  obtain ⟨h1, h2⟩ := tab_rows (n := 13) (m := 2) Tryz.underlying189 (by kernel_rfl) (by decide) rfl (by decide) (by kernel_rfl) (fun fuel' cs' zs p' hx => Lib.cells_of_tab Tryz.underlying188 Tryz.underlying3 (by kernel_rfl) (by kernel_rfl) hx) hd
  obtain ⟨t2, fr, hh⟩ := heap_of_var hg hv
  exact ⟨cs, t2, fr, hh, by simpa using h1, h2⟩
def ForP (c : Int) : Prop := c = 28 ∨ (37 ≤ c ∧ c ≤ 38) ∨ (42 ≤ c ∧ c ≤ 43) ∨ (56 ≤ c ∧ c ≤ 57) ∨ (67 ≤ c ∧ c ≤ 68) ∨ (91 ≤ c ∧ c ≤ 102) ∨ (139 ≤ c ∧ c ≤ 166) ∨ (168 ≤ c ∧ c ≤ 171) ∨ (174 ≤ c ∧ c ≤ 191) ∨ (208 ≤ c ∧ c ≤ 210) ∨ c = 253 ∨ (64512 ≤ c ∧ c ≤ 64521) ∨ (64524 ≤ c ∧ c ≤ 64529)
instance (c : Int) : Decidable (ForP c) := by unfold ForP; exact inferInstance
theorem forP_iff (c : Int) : ForP c ↔ ∃ r, r ∈ forL ∧ r.getD 0 0 ≤ c ∧ c ≤ r.getD 1 0 := by
  unfold ForP forL
  simp only [List.mem_cons, List.not_mem_nil, or_false, exists_eq_or_imp, exists_eq_left, List.getD_cons_zero, List.getD_cons_succ]
  omega
theorem ext_of {cs : Array Value} {k m : Nat} {l : List Value} (h : (cs.toList.drop (k * m)).take m = l) (hl : l.length = m) : cs.extract (k * m) (k * m + m) = l.toArray := by
  apply Array.ext_getElem?
  intro j
  have hlen : k * m + m ≤ cs.size ∨ m = 0 := by
    have := congrArg List.length h
    rw [hl, List.length_take, List.length_drop, Array.length_toList] at this
    omega
  have e2 : ((cs.toList.drop (k * m)).take m).toArray[j]? = ((cs.toList.drop (k * m)).take m)[j]? := List.getElem?_toArray ..
  rw [Array.getElem?_extract, ← h, e2, List.getElem?_take, List.getElem?_drop]
  by_cases hj : j < m
  · rw [if_pos hj, Array.getElem?_toList, if_pos (by omega)]
  · rw [if_neg hj, if_neg (by omega)]
theorem ag189 : (P : Program) → P = Tryz.prog → (∀ W, (sizeOf 188).run P W = .ok 2 W) ∧ (∀ W, (isAgg 188).run P W = .ok true W) ∧ ∀ W, (underlying 189).run P W = .ok (.array 13 188) W := fun P h => by
  subst h
  exact ⟨fun W => Tryz.sizeOf188 W, fun W => Tryz.isAgg188 W, fun W => run_underlying Tryz.underlying189 W⟩
theorem idx189 (cs : Array Value) (k : Nat) (hk : k < 13) (a b : Int) (h : (cs.toList.drop (k * 2)).take 2 = [.int .i64 a, .int .i64 b]) (W : World) : (Instr.index 189 (.agg cs) (.int .i64 (k : Int))).run Tryz.prog W = .ok (.agg #[.int .i64 a, .int .i64 b]) W := by
  have he := ext_of h rfl
  generalize hP : Tryz.prog = P
  obtain ⟨h1, h2, h3⟩ := ag189 P hP.symm
  have h4 : (k : Int) < 13 := by omega
  simp [Instr.index, asIntOf, h3, part, h1, h2, h4, Result.andThen, he]
  intro h; omega
theorem two {r : List Int} (h : r.length = 2) : r.map (fun z => Value.int .i64 z) = [.int .i64 (r.getD 0 0), .int .i64 (r.getD 1 0)] := by
  match r, h with
  | [a, b], _ => rfl
theorem for_two {r : List Int} (h : r ∈ forL) : r.length = 2 := by
  have hB : (forL.all fun r => decide (r.length = 2)) = true := by kernel_rfl
  simpa using List.all_eq_true.1 hB r h
set_option maxHeartbeats 8000000 in
set_option maxRecDepth 100000 in
theorem Foreign_any (c : Int) (hb : -9223372036854775808 ≤ c ∧ c ≤ 9223372036854775807) (w : World) (hN : Tab w 1 13 2 forL) : Calls Tryz.prog 98 #[.int .i64 c] w fun e w' => e = .returned (.bool (decide (ForP c))) ∧ Below w.heap.size w w' := by
  obtain ⟨cs, t, fr, hh, hsz, hrow⟩ := hN
  have HH := Lib.hid hh
  have HS : Hid ((Tryz.prog.info? 189).map (·.size) = some cs.size) := Lib.hid (by rw [hsz]; kernel_rfl)
  have HR := Lib.hid hrow
  have HL : Hid (forL.length = 13) := Lib.hid rfl
  have IX := Lib.hid (idx189 cs)
  obtain ⟨fb, hfb⟩ : ∃ fb, fb = decide (ForP c) := ⟨_, rfl⟩
  have HY : Hid (∀ r, r ∈ forL → r.getD 0 0 ≤ c → c ≤ r.getD 1 0 → fb = true) := Lib.hid (fun r h1 h2 h3 => by rw [hfb]; exact decide_eq_true ((forP_iff c).2 ⟨r, h1, h2, h3⟩))
  have HZ : Hid ((∀ r, r ∈ forL → ¬ (r.getD 0 0 ≤ c ∧ c ≤ r.getD 1 0)) → fb = false) := Lib.hid (fun h => by rw [hfb]; exact decide_eq_false (fun h2 => by obtain ⟨r, h3, h4⟩ := (forP_iff c).1 h2; exact h r h3 h4))
  rw [← hfb]
  clear hh hsz hrow hfb
  go_enter Tryz.func98, Tryz.ntmps98
  go_wp2_with (with_reducible refine wpList_load_row rfl 189 (.global 1) rfl 1 rfl t cs fr (.array 13 188) HH.out Tryz.underlying189 rfl HS.out ?_)
  go_loopw [6] (fun v6 wr => ∃ k : Nat, k ≤ 13 ∧ v6 = .int .i64 k ∧ Hid (∀ (j : Nat) (r : List Int), j < k → forL[j]? = some r → ¬ (r.getD 0 0 ≤ c ∧ c ≤ r.getD 1 0)) ∧ Hid (Below w.heap.size w wr)) (fun v6 _ => 13 - (intOf v6).toNat)
  case atStart => exact ⟨0, by omega, rfl, Lib.hid (fun j r h => by omega), Lib.hid (Below.refl _ _)⟩
  case round =>
    obtain ⟨k, hk, rfl, HNo, HB⟩ := hrel
    by_cases hlt : k < 13
    · obtain ⟨r, HRr⟩ : ∃ r, Hid (forL[k]? = some r) := ⟨_, Lib.hid (List.getElem?_eq_getElem (by rw [HL.out]; exact hlt))⟩
      have HM := Lib.hid (List.mem_of_getElem? HRr.out)
      have h5 := HR.out k r HRr.out
      rw [two (for_two HM.out)] at h5
      have ix := IX.out k hlt _ _ h5
      have HYr := Lib.hid (HY.out r HM.out)
      have HNN : Hid ((r.getD 0 0 ≤ c → c ≤ r.getD 1 0 → False) → ∀ (j : Nat) (r : List Int), j < k + 1 → forL[j]? = some r → ¬ (r.getD 0 0 ≤ c ∧ c ≤ r.getD 1 0)) := Lib.hid (fun h j r' hj hr' ha => by
        by_cases e : j = k
        · subst e
          obtain rfl : r = r' := Option.some.inj (HRr.out.symm.trans hr')
          exact h ha.1 ha.2
        · exact HNo.out j r' (by omega) hr' ha)
      clear h5
      have hdk : decide ((k : Int) < 13) = true := by simp; omega
      generalize r.getD 0 0 = a at ix HYr HNN
      generalize r.getD 1 0 = b at ix HYr HNN
      have HBa : Hid (Below w.heap.size w (wr.alloc (.cells #[.int .i64 a, .int .i64 b] 188))) := Lib.hid (HB.out.alloc HB.out.size _)
      by_cases h1 : a ≤ c
      · by_cases h2 : c ≤ b
        · have hft := HYr.out h1 h2
          subst hft
          go_wp2_with fail
          go_ret
          exact ⟨rfl, HBa.out⟩
        · have HN2 := Lib.hid (HNN.out (fun _ h => h2 h))
          go_wp2_with fail
          go_roundw
          case rel => exact ⟨k + 1, by omega, by go_num, HN2, HBa⟩
          case measure => simp [intOf]; omega
      · have HN2 := Lib.hid (HNN.out (fun h _ => h1 h))
        go_wp2_with fail
        go_roundw
        case rel => exact ⟨k + 1, by omega, by go_num, HN2, HBa⟩
        case measure => simp [intOf]; omega
    · obtain rfl : k = 13 := by omega
      have hff := HZ.out (fun r hr => by
        obtain ⟨j, hj⟩ := List.getElem?_of_mem hr
        exact HNo.out j r (by rw [← HL.out]; exact (List.getElem?_eq_some_iff.1 hj).1) hj)
      subst hff
      go_wp2_with fail
      go_ret
      exact ⟨rfl, HB.out⟩
end Go.Proofs.YtggfaalodojjkaaGreatDoor
namespace Go.Proofs.YtggfaalodojjkaaGreatDoor
open Go.RowKit
set_option linter.unusedVariables false
set_option linter.unusedSimpArgs false
theorem results68 : Tryz.f68.results = #[.cell 2 61] := by kernel_rfl
theorem tb_fr {S : Nat → Prop} {w w' : World} (h : Tb w) (hf : Fr S w w') (h0 : ¬ S 0) : Tb w' := fun i hi => by
  have hb := hf.block 0 h.size h0
  have := h i hi
  simp only [World.cell?] at this ⊢
  rw [hb]; exact this
theorem tab_fr {S : Nat → Prop} {w w' : World} {g n m : Nat} {rows : List (List Int)} (h : Tab w g n m rows) (hf : Fr S w w') (h1 : ¬ S g) : Tab w' g n m rows := by
  obtain ⟨cs, t, fr, h2, h3⟩ := h
  exact ⟨cs, t, fr, hf.keep h2 h1, h3⟩
/-- the tables that a reader wants, and where it lies -/
def Ev (w : World) (f c R : Nat) : Prop := Tb w ∧ Tab w 1 13 2 forL ∧ 2 ≤ f ∧ 2 ≤ c ∧ 2 ≤ R
theorem Ev.fr_ {w w' : World} {f c R : Nat} (h : Ev w f c R) (hf : Fr (FR f c R) w w') : Ev w' f c R := by
  obtain ⟨h1, h2, h3, h4, h5⟩ := h
  exact ⟨tb_fr h1 hf (by rintro (e | e | e) <;> omega), tab_fr h2 hf (by rintro (e | e | e) <;> omega), h3, h4, h5⟩
theorem wrap_in (z : Int) : -9223372036854775808 ≤ IntKind.i64.wrap z ∧ IntKind.i64.wrap z ≤ 9223372036854775807 := by
  have h0 := Int.emod_nonneg z (show (18446744073709551616 : Int) ≠ 0 by decide)
  have h1 := Int.emod_lt_of_pos z (show (0 : Int) < 18446744073709551616 by decide)
  simp only [IntKind.wrap, IntKind.bits, IntKind.signed, Bool.true_and, decide_eq_true_eq, ge_iff_le, show (2 : Int) ^ 64 = 18446744073709551616 from rfl, show (2 : Int) ^ (64 - 1) = 9223372036854775808 from rfl]
  constructor <;> split <;> omega
section
variable {w w' : World} {f g c N : Nat} {l : List Nat} {fa : Int} {fr t R a0 m : Nat}
end
end Go.Proofs.YtggfaalodojjkaaGreatDoor
namespace Go.Proofs.YtggfaalodojjkaaGreatDoor
open Go.RowKit
set_option linter.unusedVariables false
set_option linter.unusedSimpArgs false
/-- a code, read -/
def cdF (l : List Nat) (t a er : Nat) : Int × Nat × Nat :=
  if (byF l t a er).1 = 252 then (64512 + ((nuF l t 32 (byF l t a er).2.1 (byF l t a er).2.2).1 : Int), (nuF l t 32 (byF l t a er).2.1 (byF l t a er).2.2).2) else (((byF l t a er).1 : Int), (byF l t a er).2)
/-- the error behind a code that is another profile's -/
def fgE (code : Int) (er : Nat) : Nat := if ForP code then mtE er 6 else er
theorem byF_lt {l : List Nat} (hx : ∀ z ∈ l, z < 256) (t a er : Nat) : (byF l t a er).1 < 256 := by
  unfold byF
  split
  · split
    · show l.getD a 0 < 256
      rw [List.getD_eq_getElem?_getD]
      cases e : l[a]? with
      | none => simp
      | some z => simpa using hx z (List.mem_of_getElem? e)
    · show (0 : Nat) < _
      omega
  · show (0 : Nat) < _
    omega
theorem own_geB {w : World} {B E sz n k : Nat} {v : Value} {xs : List Value} (h : w.ownsRow B E sz v n xs) (hk : v.ownBlock = some k) : B ≤ k := by
  rcases h.2 with ⟨e, _⟩ | ⟨g, cap, cur, e, hg, _⟩
  · rw [e] at hk; cases hk
  · rw [e] at hk; cases hk; exact hg
/-- an info that stands, of a code -/
def InX (w : World) (B : Nat) (code : Int) (I : Array Value) (ok : Bool) : Prop :=
  (ok = true ∧ ∃ r i At ct Ag cg, OpAt code r i ∧ InfAt w B r i At ct Ag cg ∧ I = infV r i At ct Ag cg) ∨ (ok = false ∧ (∀ r i, ¬ OpAt code r i) ∧ I = Z57)
section
variable {w w' : World}
theorem InX.fr_ {S : Nat → Prop} {B : Nat} {I : Array Value} {code : Int} {ok : Bool} (h : InX w B code I ok) (hf : Fr S w w') (hS : ∀ q, B ≤ q → q < w.heap.size → ¬ S q) : InX w' B code I ok := by
  rcases h with ⟨e, r, i, At, ct, Ag, cg, h1, h3, h4⟩ | h
  · refine .inl ⟨e, r, i, At, ct, Ag, cg, h1, ⟨own_fr h3.1 hf (fun k hk => ?_), own_fr h3.2 hf (fun k hk => ?_)⟩, h4⟩
    · obtain ⟨cs, hcs⟩ := own_ty h3.1 hk
      exact hS k (own_geB h3.1 hk) hcs.lt
    · obtain ⟨cs, hcs⟩ := own_ty h3.2 hk
      exact hS k (own_geB h3.2 hk) hcs.lt
  · exact .inr h
theorem InX.less {B B' : Nat} {I : Array Value} {code : Int} {ok : Bool} (h : InX w B code I ok) (hB : B' ≤ B) : InX w B' code I ok := by
  rcases h with ⟨e, r, i, At, ct, Ag, cg, h1, h3, h4⟩ | h
  · exact .inl ⟨e, r, i, At, ct, Ag, cg, h1, h3.less hB, h4⟩
  · exact .inr h
theorem find_x (code : Int) (hc : (Lit.int .i64 code).wf = true) (W : World) (hT : Tb W) : Calls Tryz.prog 53 #[.int .i64 code] W fun e w' => ∃ (cd : Int) (nm : ByteArray) (fo : Int) (At : Option Addr) (nt ct : Nat) (Ag : Option Addr) (ng cg : Nat) (ok : Bool),
    e = .returned (.tuple #[.agg #[.int .i64 cd, .string nm, .int .i64 fo, .slice At nt ct, .slice Ag ng cg], .bool ok]) ∧ nt ≤ ct ∧ ct ≤ 9223372036854775807 ∧ ng ≤ cg ∧ cg ≤ 9223372036854775807 ∧ Below W.heap.size W w' ∧ InX w' W.heap.size code #[.int .i64 cd, .string nm, .int .i64 fo, .slice At nt ct, .slice Ag ng cg] ok := by
  rcases Find_case code hc with ⟨r, i, ho, h⟩ | ⟨hn, h⟩
  · refine (h W hT).mono ?_
    rintro e w' ⟨At, ct, Ag, cg, rfl, h1, h2, hb⟩
    have hI : InfAt w' W.heap.size r i At ct Ag cg := ⟨h1, h2⟩
    obtain ⟨q1, q2, q3, q4⟩ := hI.len
    exact ⟨_, _, _, At, _, ct, Ag, _, cg, true, rfl, q1, q2, q3, q4, hb, .inl ⟨rfl, r, i, At, ct, Ag, cg, ho, hI, rfl⟩⟩
  · refine (h W hT).mono ?_
    rintro e w' ⟨rfl, hb⟩
    exact ⟨_, _, _, _, _, _, _, _, _, false, rfl, Nat.le_refl _, by omega, Nat.le_refl _, by omega, hb, .inr ⟨rfl, hn, rfl⟩⟩
end
end Go.Proofs.YtggfaalodojjkaaGreatDoor
namespace Go.Proofs.YtggfaalodojjkaaGreatDoor
open Go.RowKit
set_option linter.unusedVariables false
set_option linter.unusedSimpArgs false
section
variable {w w' : World} {f g c N : Nat} {l : List Nat} {fr t R a er m : Nat}
/-- what op leaves -/
def OX (f g c N : Nat) (l : List Nat) (fr t R m : Nat) (C : Int × Nat × Nat) (w : World) (e : Ending) (w' : World) : Prop :=
  ∃ (cd : Int) (nm : ByteArray) (fo : Int) (At : Option Addr) (nt ct : Nat) (Ag : Option Addr) (ng cg : Nat) (ok : Bool), e = .returned (.agg #[.int .i64 cd, .string nm, .int .i64 fo, .slice At nt ct, .slice Ag ng cg]) ∧ InX w' w.heap.size C.1 #[.int .i64 cd, .string nm, .int .i64 fo, .slice At nt ct, .slice Ag ng cg] ok ∧ XI f g c N l fr t R C.2.1 (if ok = true then fgE C.1 C.2.2 else mtE (fgE C.1 C.2.2) 4) m w' ∧ Fr (FR f c R) w w'
set_option maxHeartbeats 8000000 in
set_option maxRecDepth 100000 in
theorem op_x (h : XI f g c N l fr t R a er m w) (hm : m < 50000) (hx : ∀ z ∈ l, z < 256) (hE : Ev w f c R) (C : Int × Nat × Nat) (hC : cdF l t a er = C) : Calls Tryz.prog 68 #[.pointer (some ⟨R, 0, none⟩)] w (OX f g c N l fr t R (m + 12) C w) := by
  obtain ⟨W0, hW0⟩ : ∃ V, V = w.alloc (.cells #[.int .i64 0, .string ⟨#[]⟩, .int .i64 0, .slice none 0 0, .slice none 0 0] 61) := ⟨_, rfl⟩
  obtain ⟨b2, hb2⟩ : ∃ x, x = w.heap.size := ⟨_, rfl⟩
  have hf0 : Fr (fun _ => False) w W0 := by rw [hW0]; exact (Fr.refl _ w).alloc _
  have hZ0 : Blk W0 b2 61 #[.int .i64 0, .string ⟨#[]⟩, .int .i64 0, .slice none 0 0, .slice none 0 0] := by rw [hW0, hb2]; exact Blk.new w 61 _
  have hR0 := h.new hf0
  have hlt : f < b2 ∧ g < b2 ∧ c < b2 ∧ R < b2 := by rw [hb2]; exact h.lt
  have HLT := Lib.hid hlt
  have HE := Lib.hid (fun w1 (q : Fr (FR f c R) W0 w1) => hE.fr_ ((hf0.more (fun q e => e.elim)).trans q))
  have HZ := Lib.hid (fun w1 (q : Fr (FR f c R) W0 w1) => hZ0.fr q (by rintro (e | e | e) <;> omega))
  have HW := Lib.hid hW0
  have HB := Lib.hid hb2
  have HF0 := Lib.hid hf0
  have HN1 := Lib.hid (byte_x hR0 (by omega) hx)
  have hx2 := byF_lt hx t a er
  have c0 : W0.cell? ⟨R, 0, none⟩ = some (.pointer (some ⟨c, 0, none⟩)) := by obtain ⟨r, q, _⟩ := hR0; exact q.rd.cell 0
  have HNum := Lib.hid (fun W2 a2 e2 (q : XI f g c N l fr t R a2 e2 (m + 1) W2) => number_x q (by omega) 32)
  have HN32 := Lib.hid (fun a2 e2 => nuF_32 l t a2 e2)
  have HS0 : Hid (b2 < W0.heap.size) := Lib.hid hZ0.lt
  have HC := Lib.hid hC
  unfold XW at HNum
  unfold OX
  unfold cdF at HC
  obtain ⟨⟨x, ax, ex⟩, hP⟩ : ∃ P, byF l t a er = P := ⟨_, rfl⟩
  rw [hP] at HN1 hx2 HC
  dsimp only at HN1 hx2 HC
  clear h hE hW0 hb2 hf0 hZ0 hR0 hlt hC hP
  go_enter Tryz.func68, Tryz.ntmps68
  go_upto_region 1 with fail
  rw [← HW.out, ← HB.out]
  go_upto_region 2 with (go_at_call 96; refine HN1.out.mono ?_; rintro e w1 ⟨rfl, q2, q3⟩; have H1 := Lib.hid q2; have F1 := Lib.hid q3; clear q2 q3 c0)
  by_cases hq : x = 252
  · subst hq
    have HNu := Lib.hid (HNum.out _ _ _ H1.out)
    have hy32 := HN32.out ax ex
    rw [if_pos rfl] at HC
    obtain ⟨⟨y, ac, ee⟩, hP2⟩ : ∃ P, nuF l t 32 ax ex = P := ⟨_, rfl⟩
    rw [hP2] at HNu hy32 HC
    dsimp only at HNu hy32 HC
    clear hP2
    go_upto_region 4 with (go_at_call 71; refine HNu.out.mono ?_; rintro e w2 ⟨rfl, y2, y3⟩; have H2 := Lib.hid y2; have F2 := Lib.hid (F1.out.trans y3); clear y2 y3)
    obtain ⟨code, hc0⟩ : ∃ z, z = 64512 + (y : Int) := ⟨_, rfl⟩
    have hcode : (Lit.int .i64 code).wf = true := by rw [hc0]; simp [Lit.wf, IntKind.min, IntKind.max, IntKind.signed, IntKind.bits]; omega
    have HCE : Hid (C = (code, ac, ee)) := Lib.hid (by rw [hc0]; exact HC.out.symm)
    rw [← hc0]
    clear hc0
    have hEv := HE.out w2 F2.out
    have HFo := Lib.hid (Foreign_any code (bounds_i64 hcode) w2 hEv.2.1)
    clear hEv
    by_cases hfp : ForP code
    · have HFG : Hid (fgE code ee = mtE ee 6) := Lib.hid (by unfold fgE; rw [if_pos hfp])
      rw [decide_eq_true hfp] at HFo
      go_upto_region 6 with (first
        | (go_at_call 98; refine HFo.out.mono ?_; rintro e w3 ⟨rfl, q⟩; have F3 := Lib.hid (F2.out.trans (Fr.of_below (S := FR f c R) q)); have H3 := Lib.hid (H2.out.new (Fr.of_below q)); clear q)
        | (go_at_call 99; refine (meet_x H3.out 6).mono ?_; rintro e w4 ⟨rfl, p2, p3⟩; have H4 := Lib.hid p2; have F4 := Lib.hid (F3.out.trans p3); clear p2 p3))
      have HFi := Lib.hid (find_x code hcode w4 (HE.out w4 F4.out).1)
      have HSX : Hid (b2 < w4.heap.size) := Lib.hid (Nat.lt_of_lt_of_le HS0.out F4.out.size)
      obtain ⟨BX, hBX⟩ : ∃ B, B = w4.heap.size := ⟨_, rfl⟩
      have HBX := Lib.hid hBX
      clear hBX
      go_upto_region 7 with (go_at_call 53; refine HFi.out.mono ?_; rintro e w5 ⟨cd, nm, fo, At, nt, ct, Ag, ng, cg, ok, rfl, k1, k2, k3, k4, kb, kI⟩; have K5 := Lib.hid kI; have B5 := Lib.hid kb; clear kI kb)
      obtain ⟨W6, hW6⟩ : ∃ V, V = w5.alloc (.cells #[.int .i64 cd, .string nm, .int .i64 fo, .slice At nt ct, .slice Ag ng cg] 61) := ⟨_, rfl⟩
      obtain ⟨b4, hb4⟩ : ∃ x, x = w5.heap.size := ⟨_, rfl⟩
      have h56 : Below w5.heap.size w5 W6 := by rw [hW6]; exact (Below.refl _ _).alloc (Nat.le_refl _) _
      have hI : Blk W6 b4 61 #[.int .i64 cd, .string nm, .int .i64 fo, .slice At nt ct, .slice Ag ng cg] := by rw [hW6, hb4]; exact Blk.new w5 61 _
      rw [← hb4, ← hW6]
      have F6 : Hid (Fr (FR f c R) W0 W6) := Lib.hid ((F4.out.trans (Fr.of_below B5.out)).trans (Fr.of_below h56))
      have H6 : Hid (XI f g c N l fr t R ac (mtE ee 6) (m + 12) W6) := Lib.hid ((H4.out.new (Fr.of_below B5.out)).new (Fr.of_below h56))
      have K6 : Hid (InX W6 BX code #[.int .i64 cd, .string nm, .int .i64 fo, .slice At nt ct, .slice Ag ng cg] ok) := Lib.hid (by rw [HBX.out]; exact K5.out.fr_ (Fr.of_below (S := fun _ => False) h56) (fun _ _ _ e => e))
      have HB4 : Hid (b2 < b4) := Lib.hid (by rw [hb4]; exact Nat.lt_of_lt_of_le HSX.out B5.out.size)
      have HC4 : Hid (∀ V, Fr (FR f c R) W6 V → V.cell? ⟨b4, 0, none⟩ = some (.int .i64 cd) ∧ V.cell? ⟨b4, 1, none⟩ = some (.string nm) ∧ V.cell? ⟨b4, 2, none⟩ = some (.int .i64 fo) ∧ V.cell? ⟨b4, 3, none⟩ = some (.slice At nt ct) ∧ V.cell? ⟨b4, 4, none⟩ = some (.slice Ag ng cg)) := Lib.hid (fun V hV => by
        have q1 := HLT.out
        have q2 := HB4.out
        have hi := hI.fr hV (by rintro (e | e | e) <;> omega)
        exact ⟨hi.cell 0, hi.cell 1, hi.cell 2, hi.cell 3, hi.cell 4⟩)
      clear h56 hI hW6 hb4
      have HKF : Hid (∀ V, Fr (FR f c R) W6 V → InX V BX code #[.int .i64 cd, .string nm, .int .i64 fo, .slice At nt ct, .slice Ag ng cg] ok) := Lib.hid (fun V hV => K6.out.fr_ hV (fun q hq _ => by
        have q1 := HLT.out
        have q2 := HSX.out
        have q3 := HBX.out
        rintro (e | e | e) <;> omega))
      cases ok
      case false =>
        go_upto_region 9 with (go_at_call 99; refine (meet_x H6.out 4).mono ?_; rintro e w7 ⟨rfl, p2, p3⟩; have H7 := Lib.hid p2; have P7 := Lib.hid p3; have F7 := Lib.hid (F6.out.trans p3); clear p2 p3)
        obtain ⟨z0, z1, z2, z3, z4⟩ := HC4.out w7 P7.out
        go_wp2_with (refine wpList_store61 rfl (.tmp 2) (.tmp 33) rfl b2 _ cd fo nm At Ag nt ct ng cg rfl rfl (HZ.out _ F7.out) (Lib.hid rfl) ?_)
        refine bodyPost_ret (v := .agg #[.int .i64 cd, .string nm, .int .i64 fo, .slice At nt ct, .slice Ag ng cg]) (results_cell_row results68 _ _ b2 61 _ (0, 0) _ rfl (setRow_heap _ b2 _ _ 61 (0, 0) (HZ.out _ F7.out)) Tryz.underlying61 rfl (by kernel_rfl)) rfl ?_
        have q1 := HLT.out
        rw [HCE.out]
        refine ⟨cd, nm, fo, At, nt, ct, Ag, ng, cg, false, rfl, ((HKF.out w7 P7.out).fr_ (fr_setRow w7 b2 _) (fun q hq _ e => ?_)).less ?_, ?_, ((HF0.out.more (fun q e => e.elim)).trans F7.out).trans_new (fr_setRow w7 b2 _) (fun i e => .inr (by rw [e, HB.out]; exact Nat.le_refl _))⟩
        · have q2 := HSX.out
          have q3 := HBX.out
          omega
        · have q2 := HSX.out
          have q3 := HBX.out
          have q4 := HB.out
          omega
        · have hfin := H7.out.fr_ (fr_setRow w7 b2 #[.int .i64 cd, .string nm, .int .i64 fo, .slice At nt ct, .slice Ag ng cg]) (by omega) (by omega) (by omega) (by omega)
          simpa only [HFG.out, if_true, if_false, Bool.false_eq_true, reduceIte, HFG.out] using hfin
      case true =>
        go_upto_region 9 with fail
        obtain ⟨z0, z1, z2, z3, z4⟩ := HC4.out W6 (Fr.refl _ _)
        go_wp2_with (refine wpList_store61 rfl (.tmp 2) (.tmp 33) rfl b2 _ cd fo nm At Ag nt ct ng cg rfl rfl (HZ.out _ F6.out) (Lib.hid rfl) ?_)
        refine bodyPost_ret (v := .agg #[.int .i64 cd, .string nm, .int .i64 fo, .slice At nt ct, .slice Ag ng cg]) (results_cell_row results68 _ _ b2 61 _ (0, 0) _ rfl (setRow_heap _ b2 _ _ 61 (0, 0) (HZ.out _ F6.out)) Tryz.underlying61 rfl (by kernel_rfl)) rfl ?_
        have q1 := HLT.out
        rw [HCE.out]
        refine ⟨cd, nm, fo, At, nt, ct, Ag, ng, cg, true, rfl, ((HKF.out W6 (Fr.refl _ _)).fr_ (fr_setRow W6 b2 _) (fun q hq _ e => ?_)).less ?_, ?_, ((HF0.out.more (fun q e => e.elim)).trans F6.out).trans_new (fr_setRow W6 b2 _) (fun i e => .inr (by rw [e, HB.out]; exact Nat.le_refl _))⟩
        · have q2 := HSX.out
          have q3 := HBX.out
          omega
        · have q2 := HSX.out
          have q3 := HBX.out
          have q4 := HB.out
          omega
        · have hfin := H6.out.fr_ (fr_setRow W6 b2 #[.int .i64 cd, .string nm, .int .i64 fo, .slice At nt ct, .slice Ag ng cg]) (by omega) (by omega) (by omega) (by omega)
          simpa only [HFG.out, if_true, if_false, Bool.false_eq_true, reduceIte, HFG.out] using hfin
    · have HFG : Hid (fgE code ee = ee) := Lib.hid (by unfold fgE; rw [if_neg hfp])
      rw [decide_eq_false hfp] at HFo
      go_upto_region 6 with (go_at_call 98; refine HFo.out.mono ?_; rintro e w3 ⟨rfl, q⟩; have F3 := Lib.hid (F2.out.trans (Fr.of_below (S := FR f c R) q)); have H3 := Lib.hid (H2.out.new (Fr.of_below q)); clear q)
      have HFi := Lib.hid (find_x code hcode w3 (HE.out w3 F3.out).1)
      have HSX : Hid (b2 < w3.heap.size) := Lib.hid (Nat.lt_of_lt_of_le HS0.out F3.out.size)
      obtain ⟨BX, hBX⟩ : ∃ B, B = w3.heap.size := ⟨_, rfl⟩
      have HBX := Lib.hid hBX
      clear hBX
      go_upto_region 7 with (go_at_call 53; refine HFi.out.mono ?_; rintro e w5 ⟨cd, nm, fo, At, nt, ct, Ag, ng, cg, ok, rfl, k1, k2, k3, k4, kb, kI⟩; have K5 := Lib.hid kI; have B5 := Lib.hid kb; clear kI kb)
      obtain ⟨W6, hW6⟩ : ∃ V, V = w5.alloc (.cells #[.int .i64 cd, .string nm, .int .i64 fo, .slice At nt ct, .slice Ag ng cg] 61) := ⟨_, rfl⟩
      obtain ⟨b4, hb4⟩ : ∃ x, x = w5.heap.size := ⟨_, rfl⟩
      have h56 : Below w5.heap.size w5 W6 := by rw [hW6]; exact (Below.refl _ _).alloc (Nat.le_refl _) _
      have hI : Blk W6 b4 61 #[.int .i64 cd, .string nm, .int .i64 fo, .slice At nt ct, .slice Ag ng cg] := by rw [hW6, hb4]; exact Blk.new w5 61 _
      rw [← hb4, ← hW6]
      have F6 : Hid (Fr (FR f c R) W0 W6) := Lib.hid ((F3.out.trans (Fr.of_below B5.out)).trans (Fr.of_below h56))
      have H6 : Hid (XI f g c N l fr t R ac ee (m + 12) W6) := Lib.hid ((H3.out.new (Fr.of_below B5.out)).new (Fr.of_below h56))
      have K6 : Hid (InX W6 BX code #[.int .i64 cd, .string nm, .int .i64 fo, .slice At nt ct, .slice Ag ng cg] ok) := Lib.hid (by rw [HBX.out]; exact K5.out.fr_ (Fr.of_below (S := fun _ => False) h56) (fun _ _ _ e => e))
      have HB4 : Hid (b2 < b4) := Lib.hid (by rw [hb4]; exact Nat.lt_of_lt_of_le HSX.out B5.out.size)
      have HC4 : Hid (∀ V, Fr (FR f c R) W6 V → V.cell? ⟨b4, 0, none⟩ = some (.int .i64 cd) ∧ V.cell? ⟨b4, 1, none⟩ = some (.string nm) ∧ V.cell? ⟨b4, 2, none⟩ = some (.int .i64 fo) ∧ V.cell? ⟨b4, 3, none⟩ = some (.slice At nt ct) ∧ V.cell? ⟨b4, 4, none⟩ = some (.slice Ag ng cg)) := Lib.hid (fun V hV => by
        have q1 := HLT.out
        have q2 := HB4.out
        have hi := hI.fr hV (by rintro (e | e | e) <;> omega)
        exact ⟨hi.cell 0, hi.cell 1, hi.cell 2, hi.cell 3, hi.cell 4⟩)
      clear h56 hI hW6 hb4
      have HKF : Hid (∀ V, Fr (FR f c R) W6 V → InX V BX code #[.int .i64 cd, .string nm, .int .i64 fo, .slice At nt ct, .slice Ag ng cg] ok) := Lib.hid (fun V hV => K6.out.fr_ hV (fun q hq _ => by
        have q1 := HLT.out
        have q2 := HSX.out
        have q3 := HBX.out
        rintro (e | e | e) <;> omega))
      cases ok
      case false =>
        go_upto_region 9 with (go_at_call 99; refine (meet_x H6.out 4).mono ?_; rintro e w7 ⟨rfl, p2, p3⟩; have H7 := Lib.hid p2; have P7 := Lib.hid p3; have F7 := Lib.hid (F6.out.trans p3); clear p2 p3)
        obtain ⟨z0, z1, z2, z3, z4⟩ := HC4.out w7 P7.out
        go_wp2_with (refine wpList_store61 rfl (.tmp 2) (.tmp 33) rfl b2 _ cd fo nm At Ag nt ct ng cg rfl rfl (HZ.out _ F7.out) (Lib.hid rfl) ?_)
        refine bodyPost_ret (v := .agg #[.int .i64 cd, .string nm, .int .i64 fo, .slice At nt ct, .slice Ag ng cg]) (results_cell_row results68 _ _ b2 61 _ (0, 0) _ rfl (setRow_heap _ b2 _ _ 61 (0, 0) (HZ.out _ F7.out)) Tryz.underlying61 rfl (by kernel_rfl)) rfl ?_
        have q1 := HLT.out
        rw [HCE.out]
        refine ⟨cd, nm, fo, At, nt, ct, Ag, ng, cg, false, rfl, ((HKF.out w7 P7.out).fr_ (fr_setRow w7 b2 _) (fun q hq _ e => ?_)).less ?_, ?_, ((HF0.out.more (fun q e => e.elim)).trans F7.out).trans_new (fr_setRow w7 b2 _) (fun i e => .inr (by rw [e, HB.out]; exact Nat.le_refl _))⟩
        · have q2 := HSX.out
          have q3 := HBX.out
          omega
        · have q2 := HSX.out
          have q3 := HBX.out
          have q4 := HB.out
          omega
        · have hfin := H7.out.fr_ (fr_setRow w7 b2 #[.int .i64 cd, .string nm, .int .i64 fo, .slice At nt ct, .slice Ag ng cg]) (by omega) (by omega) (by omega) (by omega)
          simpa only [HFG.out, if_true, if_false, Bool.false_eq_true, reduceIte, HFG.out] using hfin
      case true =>
        go_upto_region 9 with fail
        obtain ⟨z0, z1, z2, z3, z4⟩ := HC4.out W6 (Fr.refl _ _)
        go_wp2_with (refine wpList_store61 rfl (.tmp 2) (.tmp 33) rfl b2 _ cd fo nm At Ag nt ct ng cg rfl rfl (HZ.out _ F6.out) (Lib.hid rfl) ?_)
        refine bodyPost_ret (v := .agg #[.int .i64 cd, .string nm, .int .i64 fo, .slice At nt ct, .slice Ag ng cg]) (results_cell_row results68 _ _ b2 61 _ (0, 0) _ rfl (setRow_heap _ b2 _ _ 61 (0, 0) (HZ.out _ F6.out)) Tryz.underlying61 rfl (by kernel_rfl)) rfl ?_
        have q1 := HLT.out
        rw [HCE.out]
        refine ⟨cd, nm, fo, At, nt, ct, Ag, ng, cg, true, rfl, ((HKF.out W6 (Fr.refl _ _)).fr_ (fr_setRow W6 b2 _) (fun q hq _ e => ?_)).less ?_, ?_, ((HF0.out.more (fun q e => e.elim)).trans F6.out).trans_new (fr_setRow W6 b2 _) (fun i e => .inr (by rw [e, HB.out]; exact Nat.le_refl _))⟩
        · have q2 := HSX.out
          have q3 := HBX.out
          omega
        · have q2 := HSX.out
          have q3 := HBX.out
          have q4 := HB.out
          omega
        · have hfin := H6.out.fr_ (fr_setRow W6 b2 #[.int .i64 cd, .string nm, .int .i64 fo, .slice At nt ct, .slice Ag ng cg]) (by omega) (by omega) (by omega) (by omega)
          simpa only [HFG.out, if_true, if_false, Bool.false_eq_true, reduceIte, HFG.out] using hfin
  · have hq2 : ((x : Int) == 252) = false := by rw [beq_eq_false_iff_ne]; omega
    rw [if_neg hq] at HC
    go_upto_region 4 with fail
    obtain ⟨code, hc0⟩ : ∃ z, z = (x : Int) := ⟨_, rfl⟩
    have hcode : (Lit.int .i64 code).wf = true := by rw [hc0]; simp [Lit.wf, IntKind.min, IntKind.max, IntKind.signed, IntKind.bits]; omega
    obtain ⟨ac, hac⟩ : ∃ z, z = ax := ⟨_, rfl⟩
    obtain ⟨ee, hee⟩ : ∃ z, z = ex := ⟨_, rfl⟩
    have HCE : Hid (C = (code, ac, ee)) := Lib.hid (by rw [hc0, hac, hee]; exact HC.out.symm)
    have H2 := Lib.hid (H1.out.more (show m + 1 ≤ m + 12 by omega))
    rw [← hac, ← hee] at H2
    rw [← hc0]
    rw [← hc0] at hq2
    clear hc0
    have hEv := HE.out w1 F1.out
    have HFo := Lib.hid (Foreign_any code (bounds_i64 hcode) w1 hEv.2.1)
    clear hEv
    by_cases hfp : ForP code
    · have HFG : Hid (fgE code ee = mtE ee 6) := Lib.hid (by unfold fgE; rw [if_pos hfp])
      rw [decide_eq_true hfp] at HFo
      go_upto_region 6 with (first
        | (go_at_call 98; refine HFo.out.mono ?_; rintro e w3 ⟨rfl, q⟩; have F3 := Lib.hid (F1.out.trans (Fr.of_below (S := FR f c R) q)); have H3 := Lib.hid (H2.out.new (Fr.of_below q)); clear q)
        | (go_at_call 99; refine (meet_x H3.out 6).mono ?_; rintro e w4 ⟨rfl, p2, p3⟩; have H4 := Lib.hid p2; have F4 := Lib.hid (F3.out.trans p3); clear p2 p3))
      have HFi := Lib.hid (find_x code hcode w4 (HE.out w4 F4.out).1)
      have HSX : Hid (b2 < w4.heap.size) := Lib.hid (Nat.lt_of_lt_of_le HS0.out F4.out.size)
      obtain ⟨BX, hBX⟩ : ∃ B, B = w4.heap.size := ⟨_, rfl⟩
      have HBX := Lib.hid hBX
      clear hBX
      go_upto_region 7 with (go_at_call 53; refine HFi.out.mono ?_; rintro e w5 ⟨cd, nm, fo, At, nt, ct, Ag, ng, cg, ok, rfl, k1, k2, k3, k4, kb, kI⟩; have K5 := Lib.hid kI; have B5 := Lib.hid kb; clear kI kb)
      obtain ⟨W6, hW6⟩ : ∃ V, V = w5.alloc (.cells #[.int .i64 cd, .string nm, .int .i64 fo, .slice At nt ct, .slice Ag ng cg] 61) := ⟨_, rfl⟩
      obtain ⟨b4, hb4⟩ : ∃ x, x = w5.heap.size := ⟨_, rfl⟩
      have h56 : Below w5.heap.size w5 W6 := by rw [hW6]; exact (Below.refl _ _).alloc (Nat.le_refl _) _
      have hI : Blk W6 b4 61 #[.int .i64 cd, .string nm, .int .i64 fo, .slice At nt ct, .slice Ag ng cg] := by rw [hW6, hb4]; exact Blk.new w5 61 _
      rw [← hb4, ← hW6]
      have F6 : Hid (Fr (FR f c R) W0 W6) := Lib.hid ((F4.out.trans (Fr.of_below B5.out)).trans (Fr.of_below h56))
      have H6 : Hid (XI f g c N l fr t R ac (mtE ee 6) (m + 12) W6) := Lib.hid ((H4.out.new (Fr.of_below B5.out)).new (Fr.of_below h56))
      have K6 : Hid (InX W6 BX code #[.int .i64 cd, .string nm, .int .i64 fo, .slice At nt ct, .slice Ag ng cg] ok) := Lib.hid (by rw [HBX.out]; exact K5.out.fr_ (Fr.of_below (S := fun _ => False) h56) (fun _ _ _ e => e))
      have HB4 : Hid (b2 < b4) := Lib.hid (by rw [hb4]; exact Nat.lt_of_lt_of_le HSX.out B5.out.size)
      have HC4 : Hid (∀ V, Fr (FR f c R) W6 V → V.cell? ⟨b4, 0, none⟩ = some (.int .i64 cd) ∧ V.cell? ⟨b4, 1, none⟩ = some (.string nm) ∧ V.cell? ⟨b4, 2, none⟩ = some (.int .i64 fo) ∧ V.cell? ⟨b4, 3, none⟩ = some (.slice At nt ct) ∧ V.cell? ⟨b4, 4, none⟩ = some (.slice Ag ng cg)) := Lib.hid (fun V hV => by
        have q1 := HLT.out
        have q2 := HB4.out
        have hi := hI.fr hV (by rintro (e | e | e) <;> omega)
        exact ⟨hi.cell 0, hi.cell 1, hi.cell 2, hi.cell 3, hi.cell 4⟩)
      clear h56 hI hW6 hb4
      have HKF : Hid (∀ V, Fr (FR f c R) W6 V → InX V BX code #[.int .i64 cd, .string nm, .int .i64 fo, .slice At nt ct, .slice Ag ng cg] ok) := Lib.hid (fun V hV => K6.out.fr_ hV (fun q hq _ => by
        have q1 := HLT.out
        have q2 := HSX.out
        have q3 := HBX.out
        rintro (e | e | e) <;> omega))
      cases ok
      case false =>
        go_upto_region 9 with (go_at_call 99; refine (meet_x H6.out 4).mono ?_; rintro e w7 ⟨rfl, p2, p3⟩; have H7 := Lib.hid p2; have P7 := Lib.hid p3; have F7 := Lib.hid (F6.out.trans p3); clear p2 p3)
        obtain ⟨z0, z1, z2, z3, z4⟩ := HC4.out w7 P7.out
        go_wp2_with (refine wpList_store61 rfl (.tmp 2) (.tmp 33) rfl b2 _ cd fo nm At Ag nt ct ng cg rfl rfl (HZ.out _ F7.out) (Lib.hid rfl) ?_)
        refine bodyPost_ret (v := .agg #[.int .i64 cd, .string nm, .int .i64 fo, .slice At nt ct, .slice Ag ng cg]) (results_cell_row results68 _ _ b2 61 _ (0, 0) _ rfl (setRow_heap _ b2 _ _ 61 (0, 0) (HZ.out _ F7.out)) Tryz.underlying61 rfl (by kernel_rfl)) rfl ?_
        have q1 := HLT.out
        rw [HCE.out]
        refine ⟨cd, nm, fo, At, nt, ct, Ag, ng, cg, false, rfl, ((HKF.out w7 P7.out).fr_ (fr_setRow w7 b2 _) (fun q hq _ e => ?_)).less ?_, ?_, ((HF0.out.more (fun q e => e.elim)).trans F7.out).trans_new (fr_setRow w7 b2 _) (fun i e => .inr (by rw [e, HB.out]; exact Nat.le_refl _))⟩
        · have q2 := HSX.out
          have q3 := HBX.out
          omega
        · have q2 := HSX.out
          have q3 := HBX.out
          have q4 := HB.out
          omega
        · have hfin := H7.out.fr_ (fr_setRow w7 b2 #[.int .i64 cd, .string nm, .int .i64 fo, .slice At nt ct, .slice Ag ng cg]) (by omega) (by omega) (by omega) (by omega)
          simpa only [HFG.out, if_true, if_false, Bool.false_eq_true, reduceIte, HFG.out] using hfin
      case true =>
        go_upto_region 9 with fail
        obtain ⟨z0, z1, z2, z3, z4⟩ := HC4.out W6 (Fr.refl _ _)
        go_wp2_with (refine wpList_store61 rfl (.tmp 2) (.tmp 33) rfl b2 _ cd fo nm At Ag nt ct ng cg rfl rfl (HZ.out _ F6.out) (Lib.hid rfl) ?_)
        refine bodyPost_ret (v := .agg #[.int .i64 cd, .string nm, .int .i64 fo, .slice At nt ct, .slice Ag ng cg]) (results_cell_row results68 _ _ b2 61 _ (0, 0) _ rfl (setRow_heap _ b2 _ _ 61 (0, 0) (HZ.out _ F6.out)) Tryz.underlying61 rfl (by kernel_rfl)) rfl ?_
        have q1 := HLT.out
        rw [HCE.out]
        refine ⟨cd, nm, fo, At, nt, ct, Ag, ng, cg, true, rfl, ((HKF.out W6 (Fr.refl _ _)).fr_ (fr_setRow W6 b2 _) (fun q hq _ e => ?_)).less ?_, ?_, ((HF0.out.more (fun q e => e.elim)).trans F6.out).trans_new (fr_setRow W6 b2 _) (fun i e => .inr (by rw [e, HB.out]; exact Nat.le_refl _))⟩
        · have q2 := HSX.out
          have q3 := HBX.out
          omega
        · have q2 := HSX.out
          have q3 := HBX.out
          have q4 := HB.out
          omega
        · have hfin := H6.out.fr_ (fr_setRow W6 b2 #[.int .i64 cd, .string nm, .int .i64 fo, .slice At nt ct, .slice Ag ng cg]) (by omega) (by omega) (by omega) (by omega)
          simpa only [HFG.out, if_true, if_false, Bool.false_eq_true, reduceIte, HFG.out] using hfin
    · have HFG : Hid (fgE code ee = ee) := Lib.hid (by unfold fgE; rw [if_neg hfp])
      rw [decide_eq_false hfp] at HFo
      go_upto_region 6 with (go_at_call 98; refine HFo.out.mono ?_; rintro e w3 ⟨rfl, q⟩; have F3 := Lib.hid (F1.out.trans (Fr.of_below (S := FR f c R) q)); have H3 := Lib.hid (H2.out.new (Fr.of_below q)); clear q)
      have HFi := Lib.hid (find_x code hcode w3 (HE.out w3 F3.out).1)
      have HSX : Hid (b2 < w3.heap.size) := Lib.hid (Nat.lt_of_lt_of_le HS0.out F3.out.size)
      obtain ⟨BX, hBX⟩ : ∃ B, B = w3.heap.size := ⟨_, rfl⟩
      have HBX := Lib.hid hBX
      clear hBX
      go_upto_region 7 with (go_at_call 53; refine HFi.out.mono ?_; rintro e w5 ⟨cd, nm, fo, At, nt, ct, Ag, ng, cg, ok, rfl, k1, k2, k3, k4, kb, kI⟩; have K5 := Lib.hid kI; have B5 := Lib.hid kb; clear kI kb)
      obtain ⟨W6, hW6⟩ : ∃ V, V = w5.alloc (.cells #[.int .i64 cd, .string nm, .int .i64 fo, .slice At nt ct, .slice Ag ng cg] 61) := ⟨_, rfl⟩
      obtain ⟨b4, hb4⟩ : ∃ x, x = w5.heap.size := ⟨_, rfl⟩
      have h56 : Below w5.heap.size w5 W6 := by rw [hW6]; exact (Below.refl _ _).alloc (Nat.le_refl _) _
      have hI : Blk W6 b4 61 #[.int .i64 cd, .string nm, .int .i64 fo, .slice At nt ct, .slice Ag ng cg] := by rw [hW6, hb4]; exact Blk.new w5 61 _
      rw [← hb4, ← hW6]
      have F6 : Hid (Fr (FR f c R) W0 W6) := Lib.hid ((F3.out.trans (Fr.of_below B5.out)).trans (Fr.of_below h56))
      have H6 : Hid (XI f g c N l fr t R ac ee (m + 12) W6) := Lib.hid ((H3.out.new (Fr.of_below B5.out)).new (Fr.of_below h56))
      have K6 : Hid (InX W6 BX code #[.int .i64 cd, .string nm, .int .i64 fo, .slice At nt ct, .slice Ag ng cg] ok) := Lib.hid (by rw [HBX.out]; exact K5.out.fr_ (Fr.of_below (S := fun _ => False) h56) (fun _ _ _ e => e))
      have HB4 : Hid (b2 < b4) := Lib.hid (by rw [hb4]; exact Nat.lt_of_lt_of_le HSX.out B5.out.size)
      have HC4 : Hid (∀ V, Fr (FR f c R) W6 V → V.cell? ⟨b4, 0, none⟩ = some (.int .i64 cd) ∧ V.cell? ⟨b4, 1, none⟩ = some (.string nm) ∧ V.cell? ⟨b4, 2, none⟩ = some (.int .i64 fo) ∧ V.cell? ⟨b4, 3, none⟩ = some (.slice At nt ct) ∧ V.cell? ⟨b4, 4, none⟩ = some (.slice Ag ng cg)) := Lib.hid (fun V hV => by
        have q1 := HLT.out
        have q2 := HB4.out
        have hi := hI.fr hV (by rintro (e | e | e) <;> omega)
        exact ⟨hi.cell 0, hi.cell 1, hi.cell 2, hi.cell 3, hi.cell 4⟩)
      clear h56 hI hW6 hb4
      have HKF : Hid (∀ V, Fr (FR f c R) W6 V → InX V BX code #[.int .i64 cd, .string nm, .int .i64 fo, .slice At nt ct, .slice Ag ng cg] ok) := Lib.hid (fun V hV => K6.out.fr_ hV (fun q hq _ => by
        have q1 := HLT.out
        have q2 := HSX.out
        have q3 := HBX.out
        rintro (e | e | e) <;> omega))
      cases ok
      case false =>
        go_upto_region 9 with (go_at_call 99; refine (meet_x H6.out 4).mono ?_; rintro e w7 ⟨rfl, p2, p3⟩; have H7 := Lib.hid p2; have P7 := Lib.hid p3; have F7 := Lib.hid (F6.out.trans p3); clear p2 p3)
        obtain ⟨z0, z1, z2, z3, z4⟩ := HC4.out w7 P7.out
        go_wp2_with (refine wpList_store61 rfl (.tmp 2) (.tmp 33) rfl b2 _ cd fo nm At Ag nt ct ng cg rfl rfl (HZ.out _ F7.out) (Lib.hid rfl) ?_)
        refine bodyPost_ret (v := .agg #[.int .i64 cd, .string nm, .int .i64 fo, .slice At nt ct, .slice Ag ng cg]) (results_cell_row results68 _ _ b2 61 _ (0, 0) _ rfl (setRow_heap _ b2 _ _ 61 (0, 0) (HZ.out _ F7.out)) Tryz.underlying61 rfl (by kernel_rfl)) rfl ?_
        have q1 := HLT.out
        rw [HCE.out]
        refine ⟨cd, nm, fo, At, nt, ct, Ag, ng, cg, false, rfl, ((HKF.out w7 P7.out).fr_ (fr_setRow w7 b2 _) (fun q hq _ e => ?_)).less ?_, ?_, ((HF0.out.more (fun q e => e.elim)).trans F7.out).trans_new (fr_setRow w7 b2 _) (fun i e => .inr (by rw [e, HB.out]; exact Nat.le_refl _))⟩
        · have q2 := HSX.out
          have q3 := HBX.out
          omega
        · have q2 := HSX.out
          have q3 := HBX.out
          have q4 := HB.out
          omega
        · have hfin := H7.out.fr_ (fr_setRow w7 b2 #[.int .i64 cd, .string nm, .int .i64 fo, .slice At nt ct, .slice Ag ng cg]) (by omega) (by omega) (by omega) (by omega)
          simpa only [HFG.out, if_true, if_false, Bool.false_eq_true, reduceIte, HFG.out] using hfin
      case true =>
        go_upto_region 9 with fail
        obtain ⟨z0, z1, z2, z3, z4⟩ := HC4.out W6 (Fr.refl _ _)
        go_wp2_with (refine wpList_store61 rfl (.tmp 2) (.tmp 33) rfl b2 _ cd fo nm At Ag nt ct ng cg rfl rfl (HZ.out _ F6.out) (Lib.hid rfl) ?_)
        refine bodyPost_ret (v := .agg #[.int .i64 cd, .string nm, .int .i64 fo, .slice At nt ct, .slice Ag ng cg]) (results_cell_row results68 _ _ b2 61 _ (0, 0) _ rfl (setRow_heap _ b2 _ _ 61 (0, 0) (HZ.out _ F6.out)) Tryz.underlying61 rfl (by kernel_rfl)) rfl ?_
        have q1 := HLT.out
        rw [HCE.out]
        refine ⟨cd, nm, fo, At, nt, ct, Ag, ng, cg, true, rfl, ((HKF.out W6 (Fr.refl _ _)).fr_ (fr_setRow W6 b2 _) (fun q hq _ e => ?_)).less ?_, ?_, ((HF0.out.more (fun q e => e.elim)).trans F6.out).trans_new (fr_setRow W6 b2 _) (fun i e => .inr (by rw [e, HB.out]; exact Nat.le_refl _))⟩
        · have q2 := HSX.out
          have q3 := HBX.out
          omega
        · have q2 := HSX.out
          have q3 := HBX.out
          have q4 := HB.out
          omega
        · have hfin := H6.out.fr_ (fr_setRow W6 b2 #[.int .i64 cd, .string nm, .int .i64 fo, .slice At nt ct, .slice Ag ng cg]) (by omega) (by omega) (by omega) (by omega)
          simpa only [HFG.out, if_true, if_false, Bool.false_eq_true, reduceIte, HFG.out] using hfin
end
end Go.Proofs.YtggfaalodojjkaaGreatDoor
