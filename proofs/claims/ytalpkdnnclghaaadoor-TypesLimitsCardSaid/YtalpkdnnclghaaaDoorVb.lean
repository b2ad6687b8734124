/-
  What the card of limits wants: the tables and the sentinels as the row lists them; a Limits as argument.
-/
import Derived.Test.YtalpkdnnclghaaaDoorVa
import Derived.Test.YtalpkdnnclghaaaDoorXb
import Derived.Stop.LaidErr
import Derived.Deep.Strs
import Derived.ChangeSame
namespace Go.Proofs.YtalpkdnnclghaaaDoor
open Go.ChangeShapes Go.WideShapes Go.ChangeAt Go.RowKit
def laidZ : List (String × DataW Unit) := [("math/bits.deBruijn32tab", Rows.laid_math_bits_deBruijn32tab), ("math/bits.deBruijn64tab", Rows.laid_math_bits_deBruijn64tab), ("internal/strconv.uint64pow10", Rows.laid_internal_strconv_uint64pow10), ("unicode/utf8.acceptRanges", Rows.laid_unicode_utf8_acceptRanges), ("strconv.ErrRange", Rows.laid_strconv_ErrRange), ("strconv.ErrSyntax", Rows.laid_strconv_ErrSyntax), ("unicode/utf8.first", Rows.laid_unicode_utf8_first)]
theorem laidZ_met (os : Os) (args : Array Value) : laidMetH Tryd.prog laidZ ((World.laidAll Tryd.prog os laidZ).forCall (fun _ _ => 0) ⟨#[], args, []⟩).memory := by
  rw [MakeChecks.laidMetH_plain _ _ _ (by kernel_rfl)]; exact laidMet_laidAll _ (by kernel_rfl) (by kernel_rfl)
section
variable {H : Type} {enc : TypeId × Value → H} {W : World} {base : Nat} {sp : Nat → Bool} {held : Bool}
set_option maxRecDepth 100000 in
theorem open_lim {r : Reach} {b0 : Nat} {v : Value} {d : DataW H} {ps : List MemPlace} (hval : Value.okWide Tryd.prog W r b0 40 v) (hd : DataW.Trod enc Tryd.prog W base sp held 40 v d ps) :
    ∃ a b wd, v = .agg #[.int .i64 a, .int .i64 b, .bool wd] ∧ d = .agg [.lit (.int .i64 a), .lit (.int .i64 b), .lit (.bool wd)] ∧ ps = [] ∧ (Lit.int .i64 a).wf = true ∧ (Lit.int .i64 b).wf = true := by
  obtain ⟨cs, rfl, hsz⟩ := okWide_struct Tryd.underlying40 hval
  obtain ⟨fuel, hf⟩ := hd
  have hc3 : Tryd.prog.cellsOf 3 = 1 := by kernel_rfl
  have hc4 : Tryd.prog.cellsOf 4 = 1 := by kernel_rfl
  have hc40 : Tryd.prog.cellsOf 40 = 3 := by kernel_rfl
  obtain ⟨y0, y1, y2, n, he, hl, h0, h1, h2⟩ := Go.Deep.trod_struct3 Tryd.underlying40 hf
  obtain ⟨l⟩ := cs
  rw [hc40] at hsz
  obtain ⟨x0, x1, x2, rfl⟩ : ∃ x0 x1 x2, l = [x0, x1, x2] := by
    match l, hsz with
    | [x0, x1, x2], _ => exact ⟨x0, x1, x2, rfl⟩
  simp only [hc3, hc4, Value.cells, List.drop_zero, List.drop_succ_cons, List.take_succ_cons, List.take_zero] at h0 h1 h2
  obtain ⟨a, e0, r0, w0⟩ := DataW.trod_int Tryd.underlying3 h0
  obtain ⟨b, e1, r1, w1⟩ := DataW.trod_int Tryd.underlying3 h1
  obtain ⟨c, e2, r2⟩ := DataW.trod_bool Tryd.underlying4 h2
  simp only [List.cons.injEq, and_true] at e0 e1 e2
  subst e0 e1 e2 r0 r1 r2
  simp only [Prod.mk.injEq] at he
  exact ⟨a, b, c, rfl, he.1, by simpa using he.2, w0, w1⟩
theorem shut_lim {a b : Int} {wd : Bool} (wa : (Lit.int .i64 a).wf = true) (wb : (Lit.int .i64 b).wf = true) :
    DataW.Trod enc Tryd.prog W base sp held 40 (.agg #[.int .i64 a, .int .i64 b, .bool wd]) (.agg [.lit (.int .i64 a), .lit (.int .i64 b), .lit (.bool wd)]) [] := by
  have hc3 : Tryd.prog.cellsOf 3 = 1 := by kernel_rfl
  have hc4 : Tryd.prog.cellsOf 4 = 1 := by kernel_rfl
  have hc40 : Tryd.prog.cellsOf 40 = 3 := by kernel_rfl
  refine ⟨2, ?_⟩
  have h := Go.Deep.trod_struct3_mk (enc := enc) (w := W) (base := base) (spare := sp) (held := held) (n := 1) (cs := [.int .i64 a, .int .i64 b, .bool wd]) (y0 := (.lit (.int .i64 a), [])) (y1 := (.lit (.int .i64 b), [])) (y2 := (.lit (.bool wd), [])) Tryd.underlying40 (by rw [hc40]; rfl)
    (by simp only [hc3]; exact trod_int_mk 0 Tryd.underlying3 wa) (by simp only [hc3]; exact trod_int_mk 0 Tryd.underlying3 wb) (by simp only [hc4]; simp [DataW.trod, Tryd.underlying4])
  simpa [Value.cells] using h
end
theorem tabZ : (Rows.laid_internal_strconv_uint64pow10 : DataW Unit) = Lib.tabData .u64 Lib.pow10Tab := by kernel_rfl
theorem starErr : "*" ++ "errors.errorString" = "*errors.errorString" := by decide
theorem rowErr (u : TypeId) (h : Tryd.prog.typeName? 3 u = some "*errors.errorString") : u = 186 :=
  typeName_ptr_named (nm := "errors.errorString") (by rw [starErr]; kernel_rfl) (by kernel_rfl) (by decide) u (by rw [starErr]; exact h)
theorem lw_of {w : World} (hs : w.ShapedOpen Tryd.prog) (h : laidMetH Tryd.prog laidZ w) : Lw w := by
  rw [MakeChecks.laidMetH_plain _ _ _ (by kernel_rfl)] at h
  have h2 := laidMet.tail (laidMet.tail h)
  rw [tabZ] at h2
  have h5 := laidMet.tail (laidMet.tail (laidMet.tail h2))
  obtain ⟨a, s9, hv, _⟩ := laid_sentinel h5 (g := 6) (ti := 117) (tp := 186) (te := 188) (ts := 9) (by kernel_rfl) (by kernel_rfl) Tryd.underlying117 rowErr Tryd.underlying186 Tryd.underlying188 rfl rfl Tryd.underlying9 (by kernel_rfl) (by kernel_rfl)
  have hc : w.cell? ⟨6, 0, none⟩ = some (.iface 186 (.pointer (some a))) := by simpa using World.var?_cell (show Tryd.prog.globalNamed "strconv.ErrSyntax" = some 6 by kernel_rfl) hv 0
  exact ⟨mx_of hs, Lib.tabIs_of_head (g := 8) (t := 177) (e := 42) (n := 20) (by kernel_rfl) (by kernel_rfl) Tryd.underlying177 Tryd.underlying42 (by kernel_rfl) (by kernel_rfl) h2, lt_of_cell hc, 186, _, hc⟩
end Go.Proofs.YtalpkdnnclghaaaDoor
