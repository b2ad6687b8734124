/-
  op.foreign and op.Foreign.
-/
import Derived.Test.YtggfaalodojjkaaGreatDoorOOk
import Derived.Test.YtggfaalodojjkaaGreatDoorRows
import Derived.Shelf.Vars
import Derived.Outline
import Derived.Laws.Rows
import Derived.Laws.Tables
import Derived.ChangeMaps5
import Derived.Lib.LaidU8
import Derived.Test.YtggfaalodojjkaaGreatDoorVKb
import Derived.Test.YtggfaalodojjkaaGreatDoorTie
import Derived.ProofKit
import Derived.LaidMore
import Derived.OpenShut
import Derived.Stop.Joined
import Derived.Stop.LaidErr
import Derived.ChangeOld
import Derived.Below
import Derived.SevenTiedAt
import Derived.Lay
import Derived.Handed
import Derived.Deep.Slices
import Derived.Deep.Fields
import Derived.ChangeSame
import Derived.ChangeSlices
import Derived.SizedLaws
import Derived.ChangeArms
import Derived.ShutString
namespace Go.Proofs.YtggfaalodojjkaaGreatDoor
open Go.RowKit Go.ChangeShapes Go.WideShapes Go.ChangeAt
set_option linter.unusedVariables false
set_option linter.unusedSimpArgs false
theorem tab_rows {P : Program} {w : World} {base : Nat} {sp : Nat → Bool} {held : Bool} {enc : TypeId × Value → Unit} {fuel : Nat} {t e : TypeId} {n m : Nat} {cs : List Value} {rows : List (List Int)} {p : List MemPlace}
    (ht : P.underlying t = some (.array n e)) (hc : P.cellsOf e = m) (hm : 0 < m) (hr : rows.length = n) (hl : ∀ r ∈ rows, r.length = m)
    (hct : P.cellsOf t = n * m) (he : ∀ (fuel' : Nat) (cs' : List Value) (zs : List Int) (p' : List MemPlace), DataW.trod enc P w base sp held fuel' e cs' = some (.agg (zs.map fun z => .lit (.int .i64 z)), p') → cs' = zs.map fun z => Value.int .i64 z)
    (h : DataW.trod enc P w base sp held fuel t cs = some (.agg (rows.map fun r => .agg (r.map fun z => .lit (.int .i64 z))), p)) : cs.length = n * m ∧ ∀ i r, rows[i]? = some r → (cs.drop (i * m)).take m = r.map fun z => Value.int .i64 z := by
  constructor
  · cases fuel with
    | zero => simp [DataW.trod] at h
    | succ fuel =>
      simp only [DataW.trod, ht, hc] at h
      split at h
      · rename_i hl'
        rw [← hct]; simpa using hl'
      · cases h
  · intro i r hir
    have hi : i < n := by rw [← hr]; exact (List.getElem?_eq_some_iff.1 hir).1
    obtain ⟨fuel', d, q, hd, hx⟩ := Lib.array_elem ht h i hi
    rw [List.getElem?_map, hir] at hd
    simp only [Option.map_some, Option.some.injEq] at hd
    subst hd
    rw [hc] at hx
    exact he _ _ _ _ hx
def forL : List (List Int) := [[28, 28], [37, 38], [42, 43], [56, 57], [67, 68], [91, 102], [139, 166], [168, 171], [174, 191], [208, 210], [253, 253], [64512, 64521], [64524, 64529]]
/-- a table lies in a block -/
def Tab (W : World) (g : Nat) (n m : Nat) (rows : List (List Int)) : Prop := ∃ cs t fr, W.heap[g]? = some (.cells cs t fr) ∧ cs.size = n * m ∧ ∀ i r, rows[i]? = some r → (cs.toList.drop (i * m)).take m = r.map fun z => Value.int .i64 z
theorem Tab.lt {W : World} {g n m : Nat} {rows : List (List Int)} (h : Tab W g n m rows) : g < W.heap.size := by
  obtain ⟨cs, t, fr, h, _⟩ := h
  rcases Nat.lt_or_ge g W.heap.size with h1 | h1
  · exact h1
  · rw [Array.getElem?_eq_none h1] at h; cases h
theorem Tab.below {W W' : World} {g n m B : Nat} {rows : List (List Int)} (h : Tab W g n m rows) (hb : Below B W W') (hg : g < B) : Tab W' g n m rows := by
  obtain ⟨cs, t, fr, h1, h2⟩ := h
  exact ⟨cs, t, fr, (hb.block g hg).trans h1, h2⟩
theorem heap_of_var {P : Program} {w : World} {name : String} {g : Nat} {cs : Array Value} (hg : P.globalNamed name = some g) (h : w.var? P name = some cs) : ∃ t fr, w.heap[g]? = some (.cells cs t fr) := by
  unfold World.var? at h
  rw [hg] at h
  simp only [Option.bind_some] at h
  split at h
  · rename_i c t fr he
    cases h
    exact ⟨t, fr, he⟩
  · cases h
theorem for_of {W : World} (h : Lib.VarReads Tryz.prog W "grommet/op.foreign" Rows.laid_grommet_op_foreign) : Tab W 1 13 2 forL := by
  obtain ⟨g, t, cs, fuel, p, hg, ht, hv, hd⟩ := h
  obtain rfl := Option.some.inj ((show Tryz.prog.globalNamed "grommet/op.foreign" = some 1 by kernel_rfl).symm.trans hg)
  obtain rfl := Option.some.inj ((show (Tryz.prog.globals[1]?).map (·.type) = some 189 by kernel_rfl).symm.trans ht)
  rw [show (Rows.laid_grommet_op_foreign : DataW Unit) = .agg (forL.map fun r => .agg (r.map fun z => .lit (.int .i64 z))) from rfl] at hd
  obtain ⟨h1, h2⟩ := tab_rows (n := 13) (m := 2) Tryz.underlying189 (by kernel_rfl) (by decide) rfl (by decide) (by kernel_rfl) (fun fuel' cs' zs p' hx => Lib.cells_of_tab Tryz.underlying188 Tryz.underlying3 (by kernel_rfl) (by kernel_rfl) hx) hd
  obtain ⟨t2, fr, hh⟩ := heap_of_var hg hv
  exact ⟨cs, t2, fr, hh, by simpa using h1, h2⟩
def ForP (c : Int) : Prop := c = 28 ∨ (37 ≤ c ∧ c ≤ 38) ∨ (42 ≤ c ∧ c ≤ 43) ∨ (56 ≤ c ∧ c ≤ 57) ∨ (67 ≤ c ∧ c ≤ 68) ∨ (91 ≤ c ∧ c ≤ 102) ∨ (139 ≤ c ∧ c ≤ 166) ∨ (168 ≤ c ∧ c ≤ 171) ∨ (174 ≤ c ∧ c ≤ 191) ∨ (208 ≤ c ∧ c ≤ 210) ∨ c = 253 ∨ (64512 ≤ c ∧ c ≤ 64521) ∨ (64524 ≤ c ∧ c ≤ 64529)
instance (c : Int) : Decidable (ForP c) := by unfold ForP; exact inferInstance
theorem forP_iff (c : Int) : ForP c ↔ ∃ r, r ∈ forL ∧ r.getD 0 0 ≤ c ∧ c ≤ r.getD 1 0 := by
  unfold ForP forL
  simp only [List.mem_cons, List.not_mem_nil, or_false, exists_eq_or_imp, exists_eq_left, List.getD_cons_zero, List.getD_cons_succ]
  omega
theorem ext_of {cs : Array Value} {k m : Nat} {l : List Value} (h : (cs.toList.drop (k * m)).take m = l) (hl : l.length = m) : cs.extract (k * m) (k * m + m) = l.toArray := by
  apply Array.ext_getElem?
  intro j
  have hlen : k * m + m ≤ cs.size ∨ m = 0 := by
    have := congrArg List.length h
    rw [hl, List.length_take, List.length_drop, Array.length_toList] at this
    omega
  have e2 : ((cs.toList.drop (k * m)).take m).toArray[j]? = ((cs.toList.drop (k * m)).take m)[j]? := List.getElem?_toArray ..
  rw [Array.getElem?_extract, ← h, e2, List.getElem?_take, List.getElem?_drop]
  by_cases hj : j < m
  · rw [if_pos hj, Array.getElem?_toList, if_pos (by omega)]
  · rw [if_neg hj, if_neg (by omega)]
theorem ag189 : (P : Program) → P = Tryz.prog → (∀ W, (sizeOf 188).run P W = .ok 2 W) ∧ (∀ W, (isAgg 188).run P W = .ok true W) ∧ ∀ W, (underlying 189).run P W = .ok (.array 13 188) W := fun P h => by
  subst h
  exact ⟨fun W => Tryz.sizeOf188 W, fun W => Tryz.isAgg188 W, fun W => run_underlying Tryz.underlying189 W⟩
theorem idx189 (cs : Array Value) (k : Nat) (hk : k < 13) (a b : Int) (h : (cs.toList.drop (k * 2)).take 2 = [.int .i64 a, .int .i64 b]) (W : World) : (Instr.index 189 (.agg cs) (.int .i64 (k : Int))).run Tryz.prog W = .ok (.agg #[.int .i64 a, .int .i64 b]) W := by
  have he := ext_of h rfl
  generalize hP : Tryz.prog = P
  obtain ⟨h1, h2, h3⟩ := ag189 P hP.symm
  have h4 : (k : Int) < 13 := by omega
  simp [Instr.index, asIntOf, h3, part, h1, h2, h4, Result.andThen, he]
  intro h; omega
theorem two {r : List Int} (h : r.length = 2) : r.map (fun z => Value.int .i64 z) = [.int .i64 (r.getD 0 0), .int .i64 (r.getD 1 0)] := by
  match r, h with
  | [a, b], _ => rfl
theorem for_two {r : List Int} (h : r ∈ forL) : r.length = 2 := by
  have hB : (forL.all fun r => decide (r.length = 2)) = true := by kernel_rfl
  simpa using List.all_eq_true.1 hB r h
set_option maxHeartbeats 8000000 in
set_option maxRecDepth 100000 in
theorem Foreign_any (c : Int) (hb : -9223372036854775808 ≤ c ∧ c ≤ 9223372036854775807) (w : World) (hN : Tab w 1 13 2 forL) : Calls Tryz.prog 98 #[.int .i64 c] w fun e w' => e = .returned (.bool (decide (ForP c))) ∧ Below w.heap.size w w' := by
  obtain ⟨cs, t, fr, hh, hsz, hrow⟩ := hN
  have HH := Lib.hid hh
  have HS : Hid ((Tryz.prog.info? 189).map (·.size) = some cs.size) := Lib.hid (by rw [hsz]; kernel_rfl)
  have HR := Lib.hid hrow
  have HL : Hid (forL.length = 13) := Lib.hid rfl
  have IX := Lib.hid (idx189 cs)
  obtain ⟨fb, hfb⟩ : ∃ fb, fb = decide (ForP c) := ⟨_, rfl⟩
  have HY : Hid (∀ r, r ∈ forL → r.getD 0 0 ≤ c → c ≤ r.getD 1 0 → fb = true) := Lib.hid (fun r h1 h2 h3 => by rw [hfb]; exact decide_eq_true ((forP_iff c).2 ⟨r, h1, h2, h3⟩))
  have HZ : Hid ((∀ r, r ∈ forL → ¬ (r.getD 0 0 ≤ c ∧ c ≤ r.getD 1 0)) → fb = false) := Lib.hid (fun h => by rw [hfb]; exact decide_eq_false (fun h2 => by obtain ⟨r, h3, h4⟩ := (forP_iff c).1 h2; exact h r h3 h4))
  rw [← hfb]
  clear hh hsz hrow hfb
  go_enter Tryz.func98, Tryz.ntmps98
  go_wp2_with (with_reducible refine wpList_load_row rfl 189 (.global 1) rfl 1 rfl t cs fr (.array 13 188) HH.out Tryz.underlying189 rfl HS.out ?_)
  go_loopw [6] (fun v6 wr => ∃ k : Nat, k ≤ 13 ∧ v6 = .int .i64 k ∧ Hid (∀ (j : Nat) (r : List Int), j < k → forL[j]? = some r → ¬ (r.getD 0 0 ≤ c ∧ c ≤ r.getD 1 0)) ∧ Hid (Below w.heap.size w wr)) (fun v6 _ => 13 - (intOf v6).toNat)
  case atStart => exact ⟨0, by omega, rfl, Lib.hid (fun j r h => by omega), Lib.hid (Below.refl _ _)⟩
  case round =>
    obtain ⟨k, hk, rfl, HNo, HB⟩ := hrel
    by_cases hlt : k < 13
    · obtain ⟨r, HRr⟩ : ∃ r, Hid (forL[k]? = some r) := ⟨_, Lib.hid (List.getElem?_eq_getElem (by rw [HL.out]; exact hlt))⟩
      have HM := Lib.hid (List.mem_of_getElem? HRr.out)
      have h5 := HR.out k r HRr.out
      rw [two (for_two HM.out)] at h5
      have ix := IX.out k hlt _ _ h5
      have HYr := Lib.hid (HY.out r HM.out)
      have HNN : Hid ((r.getD 0 0 ≤ c → c ≤ r.getD 1 0 → False) → ∀ (j : Nat) (r : List Int), j < k + 1 → forL[j]? = some r → ¬ (r.getD 0 0 ≤ c ∧ c ≤ r.getD 1 0)) := Lib.hid (fun h j r' hj hr' ha => by
        by_cases e : j = k
        · subst e
          obtain rfl : r = r' := Option.some.inj (HRr.out.symm.trans hr')
          exact h ha.1 ha.2
        · exact HNo.out j r' (by omega) hr' ha)
      clear h5
      have hdk : decide ((k : Int) < 13) = true := by simp; omega
      generalize r.getD 0 0 = a at ix HYr HNN
      generalize r.getD 1 0 = b at ix HYr HNN
      have HBa : Hid (Below w.heap.size w (wr.alloc (.cells #[.int .i64 a, .int .i64 b] 188))) := Lib.hid (HB.out.alloc HB.out.size _)
      by_cases h1 : a ≤ c
      · by_cases h2 : c ≤ b
        · have hft := HYr.out h1 h2
          subst hft
          go_wp2_with fail
          go_ret
          exact ⟨rfl, HBa.out⟩
        · have HN2 := Lib.hid (HNN.out (fun _ h => h2 h))
          go_wp2_with fail
          go_roundw
          case rel => exact ⟨k + 1, by omega, by go_num, HN2, HBa⟩
          case measure => simp [intOf]; omega
      · have HN2 := Lib.hid (HNN.out (fun h _ => h1 h))
        go_wp2_with fail
        go_roundw
        case rel => exact ⟨k + 1, by omega, by go_num, HN2, HBa⟩
        case measure => simp [intOf]; omega
    · obtain rfl : k = 13 := by omega
      have hff := HZ.out (fun r hr => by
        obtain ⟨j, hj⟩ := List.getElem?_of_mem hr
        exact HNo.out j r (by rw [← HL.out]; exact (List.getElem?_eq_some_iff.1 hj).1) hj)
      subst hff
      go_wp2_with fail
      go_ret
      exact ⟨rfl, HB.out⟩
end Go.Proofs.YtggfaalodojjkaaGreatDoor
/-
  What InstrFails's card wants: the tables and the sentinels as the row lists them.
-/
namespace Go
theorem returnsInHanded_of_change_and_sh {H : Type} {enc : TypeId × Value → H} {a : Assume} {C : Checked} {os : Os} {f : FuncId} {fn : Func} {s : ChangeSpec} {conds : List PathCond} {apart fresh handsOn again : Bool} {X : World → Array Value → Prop}
    (hX : ∀ (w w' : World) (args : Array Value), w.heap = w'.heap → X w args → X w' args)
    (own : ownKnob C.prog.godebug = none) (started : os.Started) (noInit : C.prog.inits.idxOf? f = none) (hfn : C.prog.funcs[f]? = some fn)
    (witness : ∃ (w : World) (tape : Tape) (i : Input), w.os = os ∧ (w.forCall tape i).Shaped C.prog ∧ i.vars = [] ∧ Input.okWide C.prog (w.forCall tape i) .any w.heap.size f i ∧
      ((s.pre enc C.prog fn conds apart (w.forCall tape i).memory i.args ∧ X (w.forCall tape i).memory i.args) ∧ sizedMet enc C.prog fn (OpenSpec.ofChange s) apart (w.forCall tape i).memory i.args) ∧ a.holds C.prog (lone (Frame.enter C.prog f i.args .normal) [] (w.forCall tape i)))
    (contract : ∀ (W : World) (base : Nat) (args : Array Value) (ds gs : List (DataW H)) (before : List MemPlace),
      (∀ (j : Nat) t v, fn.params[j]? = some t → args[j]? = some v → Value.okWide C.prog W .any base t v) →
      DataW.Whole enc C.prog fn.params.toList s.vars apart W args.toList ds gs before →
      conds.all (PathCond.test C.prog ⟨fn.params.toList, ds, s.plain.varTypes C.prog, gs⟩) = true →
      (DataW.weightsEach C.prog (fn.params.toList ++ s.plain.varTypes C.prog) (ds ++ gs)).all (· ≤ reachBytes) = true → X W args →
      W.ShapedOpen C.prog →
      a.holds C.prog (lone (Frame.enter C.prog f args .normal) [] W) →
      Calls C.prog f args W fun e W' => ∃ v, e = .returned v ∧ s.post enc C.prog fn apart fresh handsOn again W args v W') :
    ReturnsInHanded a C os f .any (fun w args => (s.pre enc C.prog fn conds apart w args ∧ X w args) ∧ sizedMet enc C.prog fn (OpenSpec.ofChange s) apart w args) (s.post enc C.prog fn apart fresh handsOn again) := by
  refine returnsInHanded_of_calls own started noInit witness ?_
  intro w tape i _ hsh _ hok hpre hholds
  obtain ⟨_, _, _, fn', hfn', _, _, _, _, hval⟩ := hok
  have e : fn' = fn := Option.some.inj (hfn'.symm.trans hfn)
  subst e
  obtain ⟨⟨⟨ds, gs, before, hw, hc⟩, hx⟩, hz⟩ := hpre
  have hw' := DataW.Whole.of_heap (w' := w.forCall tape i) (by rfl) hw
  refine (contract (w.forCall tape i) w.heap.size i.args ds gs before hval hw' hc (hz.weights hw) (hX _ _ _ (by rfl) hx) hsh hholds).mono fun e W' ⟨v, he, hp⟩ => ?_
  subst he
  exact ChangeSpec.post_blind hp
end Go
namespace Go.Proofs.YtggfaalodojjkaaGreatDoor
open Go.ChangeShapes Go.WideShapes Go.ChangeAt Go.RowKit Go.Deep
set_option linter.unusedVariables false
set_option linter.unusedSimpArgs false
theorem Tryz.gSp : Tryz.prog.globalNamed "strings.asciiSpace" = some 0 := by kernel_rfl
theorem Tryz.tSp : (Tryz.prog.globals[0]?).map (·.type) = some 176 := by kernel_rfl
theorem Tryz.g64 : Tryz.prog.globalNamed "math/bits.deBruijn64tab" = some 10 := by kernel_rfl
theorem Tryz.t64 : (Tryz.prog.globals[10]?).map (·.type) = some 260 := by kernel_rfl
theorem tabSp : (Rows.laid_strings_asciiSpace : DataW Unit) = Lib.tabData .u8 Lib.asciiSpaceTab := by kernel_rfl
theorem tb_of_reads {W : World} (h : Lib.VarReads Tryz.prog W "strings.asciiSpace" Rows.laid_strings_asciiSpace) : Tb W := by
  obtain ⟨g, t, cs, fuel, p, hg, ht, hv, hd⟩ := h
  obtain rfl := Option.some.inj (Tryz.gSp.symm.trans hg)
  obtain rfl := Option.some.inj (Tryz.tSp.symm.trans ht)
  rw [tabSp] at hd
  have hc := Lib.cells_of_tab Tryz.underlying176 Tryz.underlying5 (by kernel_rfl) (by kernel_rfl) hd
  intro c hcc
  have hcell := World.var?_cell hg hv c
  have e : cs[c]? = some (.int .u8 (if Lib.isSp (UInt8.ofNat c) then 1 else 0)) := by
    have hl : c < Lib.asciiSpaceTab.length := by rw [Lib.asciiSpaceTab_length]; exact hcc
    rw [← Array.getElem?_toList, hc, List.getElem?_map, List.getElem?_eq_getElem hl, ← Lib.asciiSpaceTab_at c hcc, List.getD_eq_getElem?_getD, List.getElem?_eq_getElem hl]
    rfl
  rw [← e]
  exact hcell
def dB : List Nat := [0, 1, 56, 2, 57, 49, 28, 3, 61, 58, 42, 50, 38, 29, 17, 4, 62, 47, 59, 36, 45, 43, 51, 22, 53, 39, 33, 30, 24, 18, 12, 5, 63, 55, 48, 27, 60, 41, 37, 16, 46, 35, 44, 21, 52, 32, 23, 11, 54, 26, 40, 15, 34, 20, 31, 10, 25, 14, 19, 9, 13, 8, 7, 6]
theorem tab64 : (Rows.laid_math_bits_deBruijn64tab : DataW Unit) = Lib.tabData .u8 (dB.map fun n : Nat => (n : Int)) := by kernel_rfl
theorem db_of_reads {W : World} (h : Lib.VarReads Tryz.prog W "math/bits.deBruijn64tab" Rows.laid_math_bits_deBruijn64tab) : W.cell? ⟨10, 15, none⟩ = some (.int .u8 4) := by
  obtain ⟨g, t, cs, fuel, p, hg, ht, hv, hd⟩ := h
  obtain rfl := Option.some.inj (Tryz.g64.symm.trans hg)
  obtain rfl := Option.some.inj (Tryz.t64.symm.trans ht)
  rw [tab64] at hd
  have hc := Lib.cells_of_tab Tryz.underlying260 Tryz.underlying5 (by kernel_rfl) (by kernel_rfl) hd
  have hcell := World.var?_cell hg hv 15
  have e : cs[15]? = some (.int .u8 4) := by
    rw [← Array.getElem?_toList, hc]; rfl
  rw [← e]
  exact hcell
theorem tabZ : (Rows.laid_internal_strconv_uint64pow10 : DataW Unit) = Lib.tabData .u64 Lib.pow10Tab := by kernel_rfl
theorem starErr : "*" ++ "errors.errorString" = "*errors.errorString" := by decide
theorem rowErr (u : TypeId) (h : Tryz.prog.typeName? 3 u = some "*errors.errorString") : u = 261 :=
  typeName_ptr_named (nm := "errors.errorString") (by rw [starErr]; kernel_rfl) (by kernel_rfl) (by decide) u (by rw [starErr]; exact h)
def laidG : List (String × DataW Unit) := [("math/bits.deBruijn32tab", Rows.laid_math_bits_deBruijn32tab), ("math/bits.deBruijn64tab", Rows.laid_math_bits_deBruijn64tab), ("internal/strconv.uint64pow10", Rows.laid_internal_strconv_uint64pow10), ("unicode/utf8.acceptRanges", Rows.laid_unicode_utf8_acceptRanges), ("strconv.ErrRange", Rows.laid_strconv_ErrRange), ("strconv.ErrSyntax", Rows.laid_strconv_ErrSyntax), ("unicode.White_Space", Rows.laid_unicode_White_Space), ("strings.asciiSpace", Rows.laid_strings_asciiSpace), ("grommet/op.foreign", Rows.laid_grommet_op_foreign), ("unicode/utf8.first", Rows.laid_unicode_utf8_first)]
theorem laidG_met (os : Os) (args : Array Value) : laidMetH Tryz.prog laidG ((World.laidAll Tryz.prog os laidG).forCall (fun _ _ => 0) ⟨#[], args, []⟩).memory := by
  rw [MakeChecks.laidMetH_plain _ _ _ (by kernel_rfl)]; exact laidMet_laidAll _ (by kernel_rfl) (by kernel_rfl)
theorem lwG_of {w : World} (hs : w.ShapedOpen Tryz.prog) (h : laidMetH Tryz.prog laidG w) : Lw w ∧ Tab w 1 13 2 forL := by
  rw [MakeChecks.laidMetH_plain _ _ _ (by kernel_rfl)] at h
  have htb : Tb w := tb_of_reads (Lib.laidMet.reads h (by unfold laidG; exact List.mem_cons_of_mem _ (List.mem_cons_of_mem _ (List.mem_cons_of_mem _ (List.mem_cons_of_mem _ (List.mem_cons_of_mem _ (List.mem_cons_of_mem _ (List.mem_cons_of_mem _ (List.mem_cons_self ..)))))))))
  have hfo := for_of (Lib.laidMet.reads h (by unfold laidG; exact List.mem_cons_of_mem _ (List.mem_cons_of_mem _ (List.mem_cons_of_mem _ (List.mem_cons_of_mem _ (List.mem_cons_of_mem _ (List.mem_cons_of_mem _ (List.mem_cons_of_mem _ (List.mem_cons_of_mem _ (List.mem_cons_self ..))))))))))
  have hdb := db_of_reads (Lib.laidMet.reads h (by unfold laidG; exact List.mem_cons_of_mem _ (List.mem_cons_self ..)))
  have h2 := laidMet.tail (laidMet.tail h)
  rw [tabZ] at h2
  have h4 := laidMet.tail (laidMet.tail h2)
  have h5 := laidMet.tail h4
  obtain ⟨a, s9, hv, _⟩ := laid_sentinel h5 (g := 7) (ti := 122) (tp := 261) (te := 263) (ts := 9) (by kernel_rfl) (by kernel_rfl) Tryz.underlying122 rowErr Tryz.underlying261 Tryz.underlying263 rfl rfl Tryz.underlying9 (by kernel_rfl) (by kernel_rfl)
  have hc : w.cell? ⟨7, 0, none⟩ = some (.iface 261 (.pointer (some a))) := by simpa using World.var?_cell (show Tryz.prog.globalNamed "strconv.ErrSyntax" = some 7 by kernel_rfl) hv 0
  obtain ⟨a', s9', hv', _⟩ := laid_sentinel h4 (g := 8) (ti := 122) (tp := 261) (te := 263) (ts := 9) (by kernel_rfl) (by kernel_rfl) Tryz.underlying122 rowErr Tryz.underlying261 Tryz.underlying263 rfl rfl Tryz.underlying9 (by kernel_rfl) (by kernel_rfl)
  have hc' : w.cell? ⟨8, 0, none⟩ = some (.iface 261 (.pointer (some a'))) := by simpa using World.var?_cell (show Tryz.prog.globalNamed "strconv.ErrRange" = some 8 by kernel_rfl) hv' 0
  obtain ⟨m, hm⟩ := Go.Proofs.cell_of_shapedOpen_int (zero := #[.int .i64 0]) (t := 3) (g := 3) hs (of_decide_eq_true (by kernel_rfl)) (by kernel_rfl) rfl (by kernel_rfl) (by kernel_rfl) Tryz.underlying3
  exact ⟨⟨⟨htb, htb.size⟩, ⟨lt_of_cell hm, m, hm⟩, Lib.tabIs_of_head (g := 4) (t := 235) (e := 22) (n := 20) (by kernel_rfl) (by kernel_rfl) Tryz.underlying235 Tryz.underlying22 (by kernel_rfl) (by kernel_rfl) h2, ⟨lt_of_cell hc, 261, _, hc⟩, ⟨lt_of_cell hc', 261, _, hc'⟩, ⟨lt_of_cell hdb, hdb⟩⟩, hfo⟩
end Go.Proofs.YtggfaalodojjkaaGreatDoor
