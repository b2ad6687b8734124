/-
  What the cards of texts want: the tables and the sentinels as the rows list them.
-/
import Derived.Test.YtmbnaejoiglckaaDoorKk
import Derived.Test.YtmbnaejoiglckaaDoorTie
import Derived.ProofKit
import Derived.LaidMore
import Derived.OpenShut
import Derived.Stop.Joined
import Derived.Stop.LaidErr
import Derived.ChangeOld
import Derived.Below
import Derived.SevenTiedAt
import Derived.Lay
import Derived.Handed
import Derived.Shelf.Vars
import Derived.ChangeMaps5
namespace Go
theorem returnsInHanded_of_change_and_sh {H : Type} {enc : TypeId × Value → H} {a : Assume} {C : Checked} {os : Os} {f : FuncId} {fn : Func} {s : ChangeSpec} {conds : List PathCond} {apart fresh handsOn again : Bool} {X : World → Array Value → Prop}
    (hX : ∀ (w w' : World) (args : Array Value), w.heap = w'.heap → X w args → X w' args)
    (own : ownKnob C.prog.godebug = none) (started : os.Started) (noInit : C.prog.inits.idxOf? f = none) (hfn : C.prog.funcs[f]? = some fn)
    (witness : ∃ (w : World) (tape : Tape) (i : Input), w.os = os ∧ (w.forCall tape i).Shaped C.prog ∧ i.vars = [] ∧ Input.okWide C.prog (w.forCall tape i) .any w.heap.size f i ∧
      ((s.pre enc C.prog fn conds apart (w.forCall tape i).memory i.args ∧ X (w.forCall tape i).memory i.args) ∧ sizedMet enc C.prog fn (OpenSpec.ofChange s) apart (w.forCall tape i).memory i.args) ∧ a.holds C.prog (lone (Frame.enter C.prog f i.args .normal) [] (w.forCall tape i)))
    (contract : ∀ (W : World) (base : Nat) (args : Array Value) (ds gs : List (DataW H)) (before : List MemPlace),
      (∀ (j : Nat) t v, fn.params[j]? = some t → args[j]? = some v → Value.okWide C.prog W .any base t v) →
      DataW.Whole enc C.prog fn.params.toList s.vars apart W args.toList ds gs before →
      conds.all (PathCond.test C.prog ⟨fn.params.toList, ds, s.plain.varTypes C.prog, gs⟩) = true →
      (DataW.weightsEach C.prog (fn.params.toList ++ s.plain.varTypes C.prog) (ds ++ gs)).all (· ≤ reachBytes) = true → X W args →
      W.ShapedOpen C.prog →
      a.holds C.prog (lone (Frame.enter C.prog f args .normal) [] W) →
      Calls C.prog f args W fun e W' => ∃ v, e = .returned v ∧ s.post enc C.prog fn apart fresh handsOn again W args v W') :
    ReturnsInHanded a C os f .any (fun w args => (s.pre enc C.prog fn conds apart w args ∧ X w args) ∧ sizedMet enc C.prog fn (OpenSpec.ofChange s) apart w args) (s.post enc C.prog fn apart fresh handsOn again) := by
  refine returnsInHanded_of_calls own started noInit witness ?_
  intro w tape i _ hsh _ hok hpre hholds
  obtain ⟨_, _, _, fn', hfn', _, _, _, _, hval⟩ := hok
  have e : fn' = fn := Option.some.inj (hfn'.symm.trans hfn)
  subst e
  obtain ⟨⟨⟨ds, gs, before, hw, hc⟩, hx⟩, hz⟩ := hpre
  have hw' := DataW.Whole.of_heap (w' := w.forCall tape i) (by rfl) hw
  refine (contract (w.forCall tape i) w.heap.size i.args ds gs before hval hw' hc (hz.weights hw) (hX _ _ _ (by rfl) hx) hsh hholds).mono fun e W' ⟨v, he, hp⟩ => ?_
  subst he
  exact ChangeSpec.post_blind hp
end Go
namespace Go.Proofs.YtmbnaejoiglckaaDoor
open Go.ChangeShapes Go.WideShapes Go.ChangeAt Go.RowKit
def laidZ : List (String × DataW Unit) := [("math/bits.deBruijn32tab", Rows.laid_math_bits_deBruijn32tab), ("math/bits.deBruijn64tab", Rows.laid_math_bits_deBruijn64tab), ("internal/strconv.uint64pow10", Rows.laid_internal_strconv_uint64pow10), ("strconv.ErrRange", Rows.laid_strconv_ErrRange), ("strconv.ErrSyntax", Rows.laid_strconv_ErrSyntax)]
theorem laidZ_met (os : Os) (args : Array Value) : laidMetH Tryd.prog laidZ ((World.laidAll Tryd.prog os laidZ).forCall (fun _ _ => 0) ⟨#[], args, []⟩).memory := by
  rw [MakeChecks.laidMetH_plain _ _ _ (by kernel_rfl)]; exact laidMet_laidAll _ (by kernel_rfl) (by kernel_rfl)
theorem tabZ : (Rows.laid_internal_strconv_uint64pow10 : DataW Unit) = Lib.tabData .u64 Lib.pow10Tab := by kernel_rfl
theorem starErr : "*" ++ "errors.errorString" = "*errors.errorString" := by decide
theorem rowErr (u : TypeId) (h : Tryd.prog.typeName? 3 u = some "*errors.errorString") : u = 105 :=
  typeName_ptr_named (nm := "errors.errorString") (by rw [starErr]; kernel_rfl) (by kernel_rfl) (by decide) u (by rw [starErr]; exact h)
theorem lw_of {w : World} (h : laidMetH Tryd.prog laidZ w) : Lw w := by
  rw [MakeChecks.laidMetH_plain _ _ _ (by kernel_rfl)] at h
  have htb : Tb w := tb_of_reads (Lib.laidMet.reads h (List.mem_cons_of_mem _ (List.mem_cons_self ..)))
  have h2 := laidMet.tail (laidMet.tail h)
  rw [tabZ] at h2
  have h3 := laidMet.tail h2
  have h4 := laidMet.tail h3
  obtain ⟨a, s9, hv, _⟩ := laid_sentinel h4 (g := 2) (ti := 76) (tp := 105) (te := 107) (ts := 9) (by kernel_rfl) (by kernel_rfl) Tryd.underlying76 rowErr Tryd.underlying105 Tryd.underlying107 rfl rfl Tryd.underlying9 (by kernel_rfl) (by kernel_rfl)
  have hc : w.cell? ⟨2, 0, none⟩ = some (.iface 105 (.pointer (some a))) := by simpa using World.var?_cell (show Tryd.prog.globalNamed "strconv.ErrSyntax" = some 2 by kernel_rfl) hv 0
  obtain ⟨a', s9', hv', _⟩ := laid_sentinel h3 (g := 3) (ti := 76) (tp := 105) (te := 107) (ts := 9) (by kernel_rfl) (by kernel_rfl) Tryd.underlying76 rowErr Tryd.underlying105 Tryd.underlying107 rfl rfl Tryd.underlying9 (by kernel_rfl) (by kernel_rfl)
  have hc' : w.cell? ⟨3, 0, none⟩ = some (.iface 105 (.pointer (some a'))) := by simpa using World.var?_cell (show Tryd.prog.globalNamed "strconv.ErrRange" = some 3 by kernel_rfl) hv' 0
  obtain ⟨g, t, cs, fuel, p, hg, ht, hvv, hd⟩ := Lib.laidMet.reads h2 (List.mem_cons_self ..)
  obtain rfl := Option.some.inj (Tryd.g10.symm.trans hg)
  obtain rfl := Option.some.inj (Tryd.t10.symm.trans ht)
  have hcc := Lib.cells_of_tab Tryd.underlying89 Tryd.underlying22 (by kernel_rfl) (by kernel_rfl) hd
  have hcell := World.var?_cell hg hvv 0
  have e : cs[0]? = some (.int .u64 1) := by
    rw [← Array.getElem?_toList, hcc]; rfl
  rw [e] at hcell
  exact ⟨⟨htb, Nat.lt_of_le_of_lt (Nat.zero_le 1) (lt_of_cell hcell)⟩, ⟨hcell, lt_of_cell hcell⟩, Lib.tabIs_of_head (g := 1) (t := 89) (e := 22) (n := 20) (by kernel_rfl) (by kernel_rfl) Tryd.underlying89 Tryd.underlying22 (by kernel_rfl) (by kernel_rfl) h2, ⟨lt_of_cell hc, 105, _, hc⟩, ⟨lt_of_cell hc', 105, _, hc'⟩⟩
end Go.Proofs.YtmbnaejoiglckaaDoor
