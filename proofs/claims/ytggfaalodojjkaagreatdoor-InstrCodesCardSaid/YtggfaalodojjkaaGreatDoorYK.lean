/-
  Texts of YtggfaalodojjkaaGreatDoorYK.
-/
import Derived.Test.YtggfaalodojjkaaGreatDoorYF
import Derived.Test.YtggfaalodojjkaaGreatDoorYG
import Derived.Test.YtggfaalodojjkaaGreatDoorYH
import Derived.Test.YtggfaalodojjkaaGreatDoorYI
import Derived.Test.YtggfaalodojjkaaGreatDoorYJ
import Derived.Test.YtggfaalodojjkaaGreatDoorYE
import Derived.Test.YtggfaalodojjkaaGreatDoorY7
import Derived.Test.YtggfaalodojjkaaGreatDoorYD
import Derived.Test.YtggfaalodojjkaaGreatDoorTie
import Derived.ProofKit
import Derived.LaidMore
import Derived.OpenShut
import Derived.Stop.Joined
import Derived.Stop.LaidErr
import Derived.ChangeOld
import Derived.Below
import Derived.SevenTiedAt
import Derived.Lay
import Derived.Handed
import Derived.Shelf.Vars
import Derived.Lib.LaidU8
import Derived.ChangeMaps5
import Derived.Deep.Slices
import Derived.Deep.Fields
import Derived.ChangeSame
import Derived.ChangeSlices
import Derived.SizedLaws
import Derived.ChangeArms
import Derived.ShutString
namespace Go.Proofs.YtggfaalodojjkaaGreatDoor
open Go.RowKit
set_option linter.unusedVariables false
set_option linter.unusedSimpArgs false
/-- what the document's Right answers -/
def rrB (x : In) : Bool := !(nameL x.cd).isEmpty && rgB x (formL x.cd)
set_option maxHeartbeats 2000000 in
set_option maxRecDepth 100000 in
theorem RRight_none (cd a b al : Int) (A : Option Addr) (n c : Nat) (hnc : n ≤ c) (hcm : c ≤ 9223372036854775807) (w : World)
    (hN : ∀ W, Calls Tryz.prog 36 #[.int .i64 cd] W fun e w' => e = .returned (.string ⟨#[]⟩) ∧ Below W.heap.size W w') :
    Calls Tryz.prog 11 #[.agg #[.int .i64 cd, .int .u64 a, .int .u64 b, .int .i64 al, .slice A n c]] w fun e w' => e = .returned (.bool false) ∧ Below w.heap.size w w' := by
  obtain ⟨W0, hW0⟩ : ∃ V, V = w.alloc (.cells #[.int .i64 cd, .int .u64 a, .int .u64 b, .int .i64 al, .slice A n c] 25) := ⟨_, rfl⟩
  have hb0 : Below w.heap.size w W0 := by rw [hW0]; exact (Below.refl _ _).alloc (Nat.le_refl _) _
  have hX0 : Blk W0 w.heap.size 25 #[.int .i64 cd, .int .u64 a, .int .u64 b, .int .i64 al, .slice A n c] := by rw [hW0]; exact Blk.new w 25 _
  have HB0 := Lib.hid hb0
  have HW0 := Lib.hid hW0
  have HN := Lib.hid (hN W0)
  have x0 : W0.cell? ⟨w.heap.size, 0, none⟩ = some (.int .i64 cd) := hX0.cell 0
  clear hb0 hX0 hW0 hN
  go_enter Tryz.func11, Tryz.ntmps11
  go_upto_region 1 with fail
  rw [← HW0.out]
  go_wp2_with (go_at_call 36; (with_reducible refine HN.out.mono ?_); rintro e w1 ⟨rfl, hb1⟩; have H1 := Lib.hid (HB0.out.trans (hb1.mono HB0.out.size)); clear hb1)
  go_ret
  exact ⟨rfl, H1.out⟩
theorem RRight_any (x : In) (hx : InW x) (A : Option Addr) (c : Nat) (w : World) (hl : Sl w A x.l.length c x.l) :
    Calls Tryz.prog 11 #[.agg (I5 x (.slice A x.l.length c)).toArray] w fun e w' => e = .returned (.bool (rrB x)) ∧ Below w.heap.size w w' := by
  have hN := fun W => RName_any x.cd hx.cd W
  have hF := fun W => RForm_any x.cd (bounds_i64 hx.cd) W
  have hnc := hl.2.1
  have hcm := hl.2.2.1
  unfold maxLen at hcm
  obtain ⟨cd, a, b, al, l⟩ := x
  unfold rrB
  dsimp only at *
  cases hn : nameL cd with
  | nil =>
    rw [hn] at hN
    exact RRight_none cd a b al A l.length c hnc hcm w hN
  | cons u us =>
    have hne : (⟨(nameL cd).toArray⟩ : ByteArray).toList.isEmpty = false := bs_empty (s := nameL cd) (by rw [hn]; simp)
    show Calls Tryz.prog 11 #[.agg #[.int .i64 cd, .int .u64 a, .int .u64 b, .int .i64 al, .slice A l.length c]] w fun e w' => e = .returned (.bool (rgB ⟨cd, a, b, al, l⟩ (formL cd))) ∧ Below w.heap.size w w'
    clear hn
    generalize formL cd = f at hF ⊢
    by_cases h0 : f = 0
    · subst h0; exact RRight_0 cd a b al A c l w hl _ hne hN hF
    by_cases h1 : f = 1
    · subst h1; exact RRight_1 cd a b al A c l w hl _ hne hN hF
    by_cases h3 : f = 3
    · subst h3; exact RRight_3 cd a b al A c l w hl _ hne hN hF
    by_cases h5 : f = 5
    · subst h5; exact RRight_5 cd a b al A c l w hl _ hne hN hF
    by_cases h8 : f = 8
    · subst h8; exact RRight_8 cd a b al A c l w hl _ hne hN hF
    by_cases h10 : f = 10
    · subst h10; exact RRight_10 cd a b al A c l w hl _ hne hN hF
    by_cases h11 : f = 11
    · subst h11; exact RRight_11 cd a b al A c l w hl _ hne hN hF
    exact RRight_x cd a b al A c l f h0 h1 h3 h5 h8 h10 h11 w hl _ hne hN hF
end Go.Proofs.YtggfaalodojjkaaGreatDoor
namespace Go
theorem returnsInHanded_of_change_and_sh {H : Type} {enc : TypeId × Value → H} {a : Assume} {C : Checked} {os : Os} {f : FuncId} {fn : Func} {s : ChangeSpec} {conds : List PathCond} {apart fresh handsOn again : Bool} {X : World → Array Value → Prop}
    (hX : ∀ (w w' : World) (args : Array Value), w.heap = w'.heap → X w args → X w' args)
    (own : ownKnob C.prog.godebug = none) (started : os.Started) (noInit : C.prog.inits.idxOf? f = none) (hfn : C.prog.funcs[f]? = some fn)
    (witness : ∃ (w : World) (tape : Tape) (i : Input), w.os = os ∧ (w.forCall tape i).Shaped C.prog ∧ i.vars = [] ∧ Input.okWide C.prog (w.forCall tape i) .any w.heap.size f i ∧
      ((s.pre enc C.prog fn conds apart (w.forCall tape i).memory i.args ∧ X (w.forCall tape i).memory i.args) ∧ sizedMet enc C.prog fn (OpenSpec.ofChange s) apart (w.forCall tape i).memory i.args) ∧ a.holds C.prog (lone (Frame.enter C.prog f i.args .normal) [] (w.forCall tape i)))
    (contract : ∀ (W : World) (base : Nat) (args : Array Value) (ds gs : List (DataW H)) (before : List MemPlace),
      (∀ (j : Nat) t v, fn.params[j]? = some t → args[j]? = some v → Value.okWide C.prog W .any base t v) →
      DataW.Whole enc C.prog fn.params.toList s.vars apart W args.toList ds gs before →
      conds.all (PathCond.test C.prog ⟨fn.params.toList, ds, s.plain.varTypes C.prog, gs⟩) = true →
      (DataW.weightsEach C.prog (fn.params.toList ++ s.plain.varTypes C.prog) (ds ++ gs)).all (· ≤ reachBytes) = true → X W args →
      W.ShapedOpen C.prog →
      a.holds C.prog (lone (Frame.enter C.prog f args .normal) [] W) →
      Calls C.prog f args W fun e W' => ∃ v, e = .returned v ∧ s.post enc C.prog fn apart fresh handsOn again W args v W') :
    ReturnsInHanded a C os f .any (fun w args => (s.pre enc C.prog fn conds apart w args ∧ X w args) ∧ sizedMet enc C.prog fn (OpenSpec.ofChange s) apart w args) (s.post enc C.prog fn apart fresh handsOn again) := by
  refine returnsInHanded_of_calls own started noInit witness ?_
  intro w tape i _ hsh _ hok hpre hholds
  obtain ⟨_, _, _, fn', hfn', _, _, _, _, hval⟩ := hok
  have e : fn' = fn := Option.some.inj (hfn'.symm.trans hfn)
  subst e
  obtain ⟨⟨⟨ds, gs, before, hw, hc⟩, hx⟩, hz⟩ := hpre
  have hw' := DataW.Whole.of_heap (w' := w.forCall tape i) (by rfl) hw
  refine (contract (w.forCall tape i) w.heap.size i.args ds gs before hval hw' hc (hz.weights hw) (hX _ _ _ (by rfl) hx) hsh hholds).mono fun e W' ⟨v, he, hp⟩ => ?_
  subst he
  exact ChangeSpec.post_blind hp
end Go
namespace Go.Proofs.YtggfaalodojjkaaGreatDoor
open Go.ChangeShapes Go.WideShapes Go.ChangeAt Go.RowKit Go.Deep
set_option linter.unusedVariables false
set_option linter.unusedSimpArgs false
theorem Tryz.gSp : Tryz.prog.globalNamed "strings.asciiSpace" = some 0 := by kernel_rfl
theorem Tryz.tSp : (Tryz.prog.globals[0]?).map (·.type) = some 176 := by kernel_rfl
theorem Tryz.g64 : Tryz.prog.globalNamed "math/bits.deBruijn64tab" = some 10 := by kernel_rfl
theorem Tryz.t64 : (Tryz.prog.globals[10]?).map (·.type) = some 260 := by kernel_rfl
theorem tabSp : (Rows.laid_strings_asciiSpace : DataW Unit) = Lib.tabData .u8 Lib.asciiSpaceTab := by kernel_rfl
theorem tb_of_reads {W : World} (h : Lib.VarReads Tryz.prog W "strings.asciiSpace" Rows.laid_strings_asciiSpace) : Tb W := by
  obtain ⟨g, t, cs, fuel, p, hg, ht, hv, hd⟩ := h
  obtain rfl := Option.some.inj (Tryz.gSp.symm.trans hg)
  obtain rfl := Option.some.inj (Tryz.tSp.symm.trans ht)
  rw [tabSp] at hd
  have hc := Lib.cells_of_tab Tryz.underlying176 Tryz.underlying5 (by kernel_rfl) (by kernel_rfl) hd
  intro c hcc
  have hcell := World.var?_cell hg hv c
  have e : cs[c]? = some (.int .u8 (if Lib.isSp (UInt8.ofNat c) then 1 else 0)) := by
    have hl : c < Lib.asciiSpaceTab.length := by rw [Lib.asciiSpaceTab_length]; exact hcc
    rw [← Array.getElem?_toList, hc, List.getElem?_map, List.getElem?_eq_getElem hl, ← Lib.asciiSpaceTab_at c hcc, List.getD_eq_getElem?_getD, List.getElem?_eq_getElem hl]
    rfl
  rw [← e]
  exact hcell
def dB : List Nat := [0, 1, 56, 2, 57, 49, 28, 3, 61, 58, 42, 50, 38, 29, 17, 4, 62, 47, 59, 36, 45, 43, 51, 22, 53, 39, 33, 30, 24, 18, 12, 5, 63, 55, 48, 27, 60, 41, 37, 16, 46, 35, 44, 21, 52, 32, 23, 11, 54, 26, 40, 15, 34, 20, 31, 10, 25, 14, 19, 9, 13, 8, 7, 6]
theorem tab64 : (Rows.laid_math_bits_deBruijn64tab : DataW Unit) = Lib.tabData .u8 (dB.map fun n : Nat => (n : Int)) := by kernel_rfl
theorem db_of_reads {W : World} (h : Lib.VarReads Tryz.prog W "math/bits.deBruijn64tab" Rows.laid_math_bits_deBruijn64tab) : W.cell? ⟨10, 15, none⟩ = some (.int .u8 4) := by
  obtain ⟨g, t, cs, fuel, p, hg, ht, hv, hd⟩ := h
  obtain rfl := Option.some.inj (Tryz.g64.symm.trans hg)
  obtain rfl := Option.some.inj (Tryz.t64.symm.trans ht)
  rw [tab64] at hd
  have hc := Lib.cells_of_tab Tryz.underlying260 Tryz.underlying5 (by kernel_rfl) (by kernel_rfl) hd
  have hcell := World.var?_cell hg hv 15
  have e : cs[15]? = some (.int .u8 4) := by
    rw [← Array.getElem?_toList, hc]; rfl
  rw [← e]
  exact hcell
def laidZ : List (String × DataW Unit) := [("math/bits.deBruijn32tab", Rows.laid_math_bits_deBruijn32tab), ("math/bits.deBruijn64tab", Rows.laid_math_bits_deBruijn64tab), ("internal/strconv.uint64pow10", Rows.laid_internal_strconv_uint64pow10), ("unicode/utf8.acceptRanges", Rows.laid_unicode_utf8_acceptRanges), ("strconv.ErrRange", Rows.laid_strconv_ErrRange), ("strconv.ErrSyntax", Rows.laid_strconv_ErrSyntax), ("unicode.White_Space", Rows.laid_unicode_White_Space), ("strings.asciiSpace", Rows.laid_strings_asciiSpace), ("unicode/utf8.first", Rows.laid_unicode_utf8_first)]
theorem laidZ_met (os : Os) (args : Array Value) : laidMetH Tryz.prog laidZ ((World.laidAll Tryz.prog os laidZ).forCall (fun _ _ => 0) ⟨#[], args, []⟩).memory := by
  rw [MakeChecks.laidMetH_plain _ _ _ (by kernel_rfl)]; exact laidMet_laidAll _ (by kernel_rfl) (by kernel_rfl)
theorem tabZ : (Rows.laid_internal_strconv_uint64pow10 : DataW Unit) = Lib.tabData .u64 Lib.pow10Tab := by kernel_rfl
theorem starErr : "*" ++ "errors.errorString" = "*errors.errorString" := by decide
theorem rowErr (u : TypeId) (h : Tryz.prog.typeName? 3 u = some "*errors.errorString") : u = 261 :=
  typeName_ptr_named (nm := "errors.errorString") (by rw [starErr]; kernel_rfl) (by kernel_rfl) (by decide) u (by rw [starErr]; exact h)
theorem lw_of {w : World} (hs : w.ShapedOpen Tryz.prog) (h : laidMetH Tryz.prog laidZ w) : Lw w := by
  rw [MakeChecks.laidMetH_plain _ _ _ (by kernel_rfl)] at h
  have htb : Tb w := tb_of_reads (Lib.laidMet.reads h (by unfold laidZ; exact List.mem_cons_of_mem _ (List.mem_cons_of_mem _ (List.mem_cons_of_mem _ (List.mem_cons_of_mem _ (List.mem_cons_of_mem _ (List.mem_cons_of_mem _ (List.mem_cons_of_mem _ (List.mem_cons_self ..)))))))))
  have hdb := db_of_reads (Lib.laidMet.reads h (by unfold laidZ; exact List.mem_cons_of_mem _ (List.mem_cons_self ..)))
  have h2 := laidMet.tail (laidMet.tail h)
  rw [tabZ] at h2
  have h4 := laidMet.tail (laidMet.tail h2)
  have h5 := laidMet.tail h4
  obtain ⟨a, s9, hv, _⟩ := laid_sentinel h5 (g := 7) (ti := 122) (tp := 261) (te := 263) (ts := 9) (by kernel_rfl) (by kernel_rfl) Tryz.underlying122 rowErr Tryz.underlying261 Tryz.underlying263 rfl rfl Tryz.underlying9 (by kernel_rfl) (by kernel_rfl)
  have hc : w.cell? ⟨7, 0, none⟩ = some (.iface 261 (.pointer (some a))) := by simpa using World.var?_cell (show Tryz.prog.globalNamed "strconv.ErrSyntax" = some 7 by kernel_rfl) hv 0
  obtain ⟨a', s9', hv', _⟩ := laid_sentinel h4 (g := 8) (ti := 122) (tp := 261) (te := 263) (ts := 9) (by kernel_rfl) (by kernel_rfl) Tryz.underlying122 rowErr Tryz.underlying261 Tryz.underlying263 rfl rfl Tryz.underlying9 (by kernel_rfl) (by kernel_rfl)
  have hc' : w.cell? ⟨8, 0, none⟩ = some (.iface 261 (.pointer (some a'))) := by simpa using World.var?_cell (show Tryz.prog.globalNamed "strconv.ErrRange" = some 8 by kernel_rfl) hv' 0
  obtain ⟨m, hm⟩ := Go.Proofs.cell_of_shapedOpen_int (zero := #[.int .i64 0]) (t := 3) (g := 3) hs (of_decide_eq_true (by kernel_rfl)) (by kernel_rfl) rfl (by kernel_rfl) (by kernel_rfl) Tryz.underlying3
  exact ⟨⟨htb, htb.size⟩, ⟨lt_of_cell hm, m, hm⟩, Lib.tabIs_of_head (g := 4) (t := 235) (e := 22) (n := 20) (by kernel_rfl) (by kernel_rfl) Tryz.underlying235 Tryz.underlying22 (by kernel_rfl) (by kernel_rfl) h2, ⟨lt_of_cell hc, 261, _, hc⟩, ⟨lt_of_cell hc', 261, _, hc'⟩, ⟨lt_of_cell hdb, hdb⟩⟩
/-- an instruction's numbers -/
structure InA (x : In) : Prop where
  cd : (Lit.int .i64 x.cd).wf = true
  a : 0 ≤ x.a ∧ x.a < 18446744073709551616
  b : 0 ≤ x.b ∧ x.b < 18446744073709551616
  l : ∀ z ∈ x.l, 0 ≤ z ∧ z < 18446744073709551616
section
variable {H : Type} {enc : TypeId × Value → H} {w : World} {base : Nat} {sp : Nat → Bool} {held : Bool}
set_option maxRecDepth 100000 in
theorem words_of_trod {fuel : Nat} {v : Value} {y : DataW H × List MemPlace} (h : DataW.trod enc Tryz.prog w base sp held fuel 23 [v] = some y) :
    ∃ (B : Option Addr) (cap : Nat) (l : List Int), v = .slice B l.length cap ∧ Sl w B l.length cap l ∧ ∀ z ∈ l, 0 ≤ z ∧ z < 18446744073709551616 := by
  rcases open_ints Tryz.underlying23 Tryz.underlying22 (by kernel_rfl) h with ⟨hcs, _⟩ | ⟨x, l, c, zs, hcs, _, hl, hm, hz, hx, hcell, hwz⟩
  · injection hcs with hcs
    exact ⟨none, 0, [], hcs, ⟨rfl, Nat.le_refl _, Nat.zero_le _, fun q => absurd q (Nat.lt_irrefl _)⟩, by simp⟩
  · injection hcs with hcs
    have hlz : l ≤ zs.length := by rw [hz]; split <;> omega
    have hln : (zs.take l).length = l := by rw [List.length_take]; omega
    refine ⟨some x, c, zs.take l, by rw [hln]; exact hcs, ?_, fun z hz' => by have := bounds_u64 (hwz z (List.mem_of_mem_take hz')); omega⟩
    rw [hln]
    refine ⟨hln, hl, hm, fun h0 => ?_⟩
    have hc0 := hcell 0 (by omega)
    have hspot := World.cell?_spot hc0
    have hlt := lt_of_cell hc0
    obtain ⟨b, off, spot⟩ := x
    have hs : spot = none := by simpa [Addr.add] using hspot
    subst hs
    have hadd : ∀ i, (⟨b, off, none⟩ : Addr).add i = ⟨b, off + i, none⟩ := fun i => by cases i <;> simp [Addr.add]
    rw [hadd] at hlt
    refine ⟨b, off, rfl, hlt, fun i hi => ?_⟩
    have := hcell i (by omega)
    rw [hadd] at this
    rw [this]
    unfold U64
    rw [List.getD_eq_getElem?_getD, List.getD_eq_getElem?_getD, List.getElem?_take_of_lt hi]
set_option maxRecDepth 100000 in
theorem in_of_arg {r : Reach} {b0 : Nat} {v : Value} {d : DataW H} {ps : List MemPlace} (hval : Value.okWide Tryz.prog w r b0 25 v) (hd : DataW.Trod enc Tryz.prog w base sp held 25 v d ps) :
    ∃ (x : In) (B : Option Addr) (cp : Nat), v = .agg (I5 x (.slice B x.l.length cp)).toArray ∧ Sl w B x.l.length cp x.l ∧ InA x := by
  obtain ⟨cs, rfl, hsz⟩ := okWide_struct Tryz.underlying25 hval
  obtain ⟨fuel, hf⟩ := hd
  have hC : Tryz.prog.cellsOf 25 = 5 := by kernel_rfl
  obtain ⟨ys, n', _, hD, _, hyl, hff⟩ := DataW.trod_struct Tryz.underlying25 hf
  obtain ⟨l⟩ := cs
  rw [hC] at hsz
  obtain ⟨u0, u1, u2, u3, u4, rfl⟩ : ∃ u0 u1 u2 u3 u4, l = [u0, u1, u2, u3, u4] := by
    match l, hsz with
    | [u0, u1, u2, u3, u4], _ => exact ⟨u0, u1, u2, u3, u4, rfl⟩
  obtain ⟨y0, y1, y2, y3, y4, rfl⟩ : ∃ y0 y1 y2 y3 y4, ys = [y0, y1, y2, y3, y4] := by
    match ys, hyl with
    | [y0, y1, y2, y3, y4], _ => exact ⟨y0, y1, y2, y3, y4, rfl⟩
  have h3 : Tryz.prog.cellsOf 3 = 1 := by kernel_rfl
  have h22 : Tryz.prog.cellsOf 22 = 1 := by kernel_rfl
  have h23 : Tryz.prog.cellsOf 23 = 1 := by kernel_rfl
  have f0 := hff 0 _ rfl
  have f1 := hff 1 _ rfl
  have f2 := hff 2 _ rfl
  have f3 := hff 3 _ rfl
  have f4 := hff 4 _ rfl
  simp only [h3, h22, h23, Value.cells, List.drop_zero, List.drop_succ_cons, List.take_succ_cons, List.take_zero, List.getElem?_cons_zero, List.getElem?_cons_succ] at f0 f1 f2 f3 f4
  obtain ⟨cd, e0, _, w0⟩ := DataW.trod_int Tryz.underlying3 f0
  obtain ⟨a, e1, _, w1⟩ := DataW.trod_int Tryz.underlying22 f1
  obtain ⟨b, e2, _, w2⟩ := DataW.trod_int Tryz.underlying22 f2
  obtain ⟨al, e3, _, w3⟩ := DataW.trod_int Tryz.underlying3 f3
  obtain ⟨B, cp, l, rfl, hl, hb⟩ := words_of_trod f4
  injection e0 with e0
  injection e1 with e1
  injection e2 with e2
  injection e3 with e3
  subst e0 e1 e2 e3
  have ba := bounds_u64 w1
  have bb := bounds_u64 w2
  exact ⟨⟨cd, a, b, al, l⟩, B, cp, rfl, hl, ⟨w0, ⟨ba.1, by show a < _; omega⟩, ⟨bb.1, by show b < _; omega⟩, hb⟩⟩
end
end Go.Proofs.YtggfaalodojjkaaGreatDoor
namespace Go.Proofs.YtggfaalodojjkaaGreatDoor
open Go.RowKit
set_option linter.unusedVariables false
set_option linter.unusedSimpArgs false
theorem sl_own {w : World} {B n : Nat} {v : Value} {l : List Int} (h : w.ownsRow B 22 1 v n (l.map U64)) (hl : l.length = n) (hn : n ≤ maxLen) : ∃ A cp, v = .slice A n cp ∧ Sl w A n cp l := by
  rcases Nat.eq_zero_or_pos n with h0 | h0
  · subst h0
    rcases h.2 with ⟨e, h1⟩ | ⟨g, cap, cur, e, h1, h2, h3, h4, h5, h6⟩
    · subst e
      exact ⟨none, 0, rfl, ⟨hl, Nat.le_refl _, Nat.zero_le _, fun q => absurd q (by omega)⟩⟩
    · subst e
      exact ⟨_, _, rfl, ⟨hl, by omega, h4, fun q => absurd q (by omega)⟩⟩
  · rcases h.2 with ⟨e, h1⟩ | ⟨g, cap, cur, e, h1, h2, h3, h4, h5, h6⟩
    · omega
    · subst e
      refine ⟨_, _, rfl, ⟨hl, h3, h4, fun _ => ⟨g, 0, rfl, (h.lt g rfl).2, fun j hj => ?_⟩⟩⟩
      rw [Nat.zero_add, h.cellAt j (by omega), List.getElem?_map, List.getD_eq_getElem?_getD, List.getElem?_eq_getElem (by omega)]
      rfl
theorem eqI_iff (x y : In) : eqI x y = true ↔ x = y := by
  obtain ⟨c1, a1, b1, d1, l1⟩ := x
  obtain ⟨c2, a2, b2, d2, l2⟩ := y
  unfold eqI
  simp only [Bool.and_eq_true, decide_eq_true_eq, In.mk.injEq]
  exact ⟨fun ⟨⟨⟨⟨a, b⟩, c⟩, d⟩, e⟩ => ⟨a, b, c, d, e⟩, fun ⟨a, b, c, d, e⟩ => ⟨⟨⟨⟨a, b⟩, c⟩, d⟩, e⟩⟩
theorem InA.w {x : In} (h : InA x) (hn : x.l.length ≤ 120) : InW x := ⟨h.cd, h.a, h.b, h.l, by omega⟩
theorem right_of_rr {x : In} (h : InW x) (hr : rrB x = true) : ∃ r, rightI x r := by
  unfold rrB at hr
  simp only [Bool.and_eq_true, Bool.not_eq_true', List.isEmpty_eq_false_iff] at hr
  exact right_of_doc x h hr.1 hr.2
theorem to_sl (x : In) (A : Option Addr) (c : Nat) (W : World) (h : Sl W A x.l.length c x.l) (hn : x.l.length ≤ 120) :
    Calls Tryz.prog 9 #[.agg (I5 x (.slice A x.l.length c)).toArray] W fun e w' => ∃ g cp, x.l.length ≤ cp ∧ cp ≤ 9223372036854775807 ∧ e = .returned (.agg (I5 x (.slice (some ⟨g, 0, none⟩) x.l.length cp)).toArray) ∧ Below W.heap.size W w' ∧ Sl w' (some ⟨g, 0, none⟩) x.l.length cp x.l := by
  refine (To_ok x A c W h (by omega)).mono ?_
  rintro e w' ⟨hb, g, cp, rfl, ho⟩
  obtain ⟨A', cp', e, hs⟩ := sl_own ho rfl (by unfold maxLen; omega)
  injection e with e1 e2 e3
  subst e1; subst e3
  have h1 := hs.2.1
  have h2 := hs.2.2.1
  unfold maxLen at h2
  exact ⟨g, cp, h1, h2, rfl, hb, hs⟩
end Go.Proofs.YtggfaalodojjkaaGreatDoor
