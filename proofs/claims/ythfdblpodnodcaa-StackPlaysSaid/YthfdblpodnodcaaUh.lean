/-
  Arguments that are rows of small numbers; the given example of the twentieth layer (awake); the walk of FrameNone.
-/
import Derived.Test.YthfdblpodnodcaaUg
import Derived.Test.YthfdblpodnodcaaTf
namespace Go.Proofs.Ythfdblpodnodcaa
open Go.RowKit Go.ChangeShapes Go.WideShapes Go.Deep
set_option linter.unusedVariables false
set_option linter.unusedSimpArgs false
/-- a slice of numbers of 16 bits that reads as f -/
def Sht (w : World) (A : Option Addr) (n cap : Nat) (f : Nat → Nat) : Prop :=
  n ≤ cap ∧ cap ≤ maxLen ∧ (∀ i, i < n → f i < 65536) ∧ (0 < n → ∃ b off, A = some ⟨b, off, none⟩ ∧ b < w.heap.size ∧ ∀ j, j < n → w.cell? ⟨b, off + j, none⟩ = some (.int .u16 ((f j : Nat) : Int)))
theorem Sht.at_ {w wr : World} {b off n cap j : Nat} {f : Nat → Nat} (h : Sht w (some ⟨b, off, none⟩) n cap f) (hb : Below w.heap.size w wr) (hj : j < n) : wr.cell? ⟨b, off + j, none⟩ = some (.int .u16 ((f j : Nat) : Int)) := by
  obtain ⟨b', off', e, hlt, hc⟩ := h.2.2.2 (by omega)
  injection e with e
  injection e with e1 e2
  subst e1 e2
  exact (hb.cell (p := ⟨b, off + j, none⟩) hlt).trans (hc j hj)
theorem sht_of_arg {H : Type} {enc : TypeId × Value → H} {w : World} {sp : Nat → Bool} {held : Bool} {base : Nat} {a : Option Addr} {len cap : Nat} {d : DataW H} {p : List MemPlace} (h : DataW.Trod enc Try.prog w base sp held 68 (.slice a len cap) d p) :
    ∃ f, Sht w a len cap f := by
  obtain ⟨fuel, hf⟩ := h
  rcases open_ints Try.underlying68 Try.underlying22 (by kernel_rfl) hf with ⟨hcs, _⟩ | ⟨x, l, c, zs, hcs, _, hl, hm, hz, hx, hcell, hwz⟩
  · simp [Value.cells] at hcs
    obtain ⟨rfl, rfl, rfl⟩ := hcs
    exact ⟨fun _ => 0, Nat.le_refl _, Nat.zero_le _, fun i hi => by omega, fun q => absurd q (Nat.lt_irrefl _)⟩
  · simp [Value.cells] at hcs
    obtain ⟨rfl, rfl, rfl⟩ := hcs
    have hlz : len ≤ zs.length := by rw [hz]; split <;> omega
    have hwf : ∀ i, i < len → 0 ≤ zs.getD i 0 ∧ zs.getD i 0 < 65536 := fun i hi => by
      rw [List.getD_eq_getElem?_getD, List.getElem?_eq_getElem (by omega)]
      have := bounds_u16 (hwz _ (List.getElem_mem (show i < zs.length by omega)))
      simp only [Option.getD_some]
      omega
    refine ⟨fun i => (zs.getD i 0).toNat, hl, hm, fun i hi => by have := hwf i hi; show (zs.getD i 0).toNat < _; omega, fun h0 => ?_⟩
    have hc0 := hcell 0 (by omega)
    have hspot := World.cell?_spot hc0
    have hlt := lt_of_cell hc0
    obtain ⟨b, off, spot⟩ := x
    have hs : spot = none := by simpa [Addr.add] using hspot
    subst hs
    rw [addr_add] at hlt
    refine ⟨b, off, rfl, hlt, fun i hi => ?_⟩
    have := hcell i (by omega)
    rw [addr_add] at this
    rw [this]
    have h1 := hwf i hi
    show some (Value.int .u16 _) = some (Value.int .u16 (((zs.getD i 0).toNat : Nat) : Int))
    congr 2
    omega
theorem cl60 : cl (12 * ((5 : Nat) : Int)) = 64 := by decide
set_option maxHeartbeats 1000000 in
set_option maxRecDepth 100000 in
theorem awake20_any (w : World) : Calls Try.prog 26 #[] w fun e w' => e = .returned (.bool true) ∧ Below w.heap.size w w' := by
  go_enter Try.func26, Try.ntmps26
  go_wp2_with fail
  refine (ANew_ok 1000 _ (by omega)).mono ?_
  rintro e w1 ⟨a, bb, rm, gm, rfl, h1, b1, ha, hb, hr, hg⟩
  have HN := FkNew_ok h1 5 (by omega) (by omega) rfl (by rw [cl60]; show (64 : Nat) ≤ 1000; decide) (by show (0 : Nat) < 1000000; decide)
  unfold NfPost at HN
  have HN : Hid (Calls Try.prog 27 #[.pointer (some ⟨a, 0, none⟩), .int .i64 5] w1 _) := Lib.hid HN
  have B1 := Lib.hid (And.intro b1 (And.intro ha (And.intro hb (And.intro hr hg))))
  clear h1 b1 ha hb hr hg
  go_wp2_with (first
    | (go_at_call 27
       with_reducible refine HN.out.mono ?_
       rintro e w2 ⟨s, rfl, hs, hS, hF⟩
       have HL2 := Lib.hid (lo_new B1.out.1 B1.out.2.1 B1.out.2.2.1 B1.out.2.2.2.1 B1.out.2.2.2.2 hF hs)
       have hP := FPush_ok hS (1, 2, 3) ⟨by decide, by decide, by decide⟩ (by omega)
       unfold FsPost at hP
       have hl := hS.len
       have e1 := fr3_put (d := _) (p := (nuA 1000).height + 12 * 0) (x := (1, 2, 3)) (Nat.le_trans (by omega) hl) ⟨by decide, by decide, by decide⟩
       have E1 := Lib.hid e1
       have HP : Hid (Calls Try.prog 28 #[.pointer (some ⟨s, 0, none⟩), .agg #[.int .i64 1, .int .i64 2, .int .i64 3]] w2 _) := Lib.hid hP
       have HLn := Lib.hid hl
       clear hs hS hF hP hl e1)
    | (go_at_call 28
       with_reducible refine HP.out.mono ?_
       rintro e w3 ⟨rfl, hS, hF⟩
       have HL3 := Lib.hid (HL2.out.step hF)
       have hG := FGo_ok hS 9 (by decide)
       unfold GoPost at hG
       rw [E1.out] at hG
       have e2 := fr3_put (d := _) (p := (nuA 1000).height + 12 * 0) (x := (1, 9, 3)) (Nat.le_trans (by omega) hS.len) ⟨by decide, by decide, by decide⟩
       have E2 := Lib.hid e2
       have HG : Hid (Calls Try.prog 32 #[.pointer (some ⟨s, 0, none⟩), .int .i64 9] w3 _) := Lib.hid hG
       clear hS hF hG e2)
    | (go_at_call 32
       with_reducible refine HG.out.mono ?_
       rintro e w4 ⟨rfl, hS, hF⟩
       have HL4 := Lib.hid (HL3.out.stepB hF)
       have hT := Top_ok hS
       unfold AtPost at hT
       rw [E2.out] at hT
       have HT : Hid (Calls Try.prog 31 #[.pointer (some ⟨s, 0, none⟩)] w4 fun e w' => e = .returned (.tuple #[.agg #[.int .i64 1, .int .i64 9, .int .i64 3], .int .i64 0]) ∧ Below w4.heap.size w4 w') := Lib.hid hT
       clear hS hF hT)
    | (go_at_call 31
       with_reducible refine HT.out.mono ?_
       rintro e w5 ⟨rfl, hb⟩
       have HL5 := Lib.hid (HL4.out.mv hb)
       clear hb))
  go_ret
  exact ⟨rfl, (HL5.out.mv (below_alloc _ _)).bel⟩
def AzPost (c : Int) (w : World) (e : Ending) (w' : World) : Prop := e = .returned (.tuple #[.agg #[.int .i64 0, .int .i64 0, .int .i64 0], .int .i64 c]) ∧ Below w.heap.size w w'
theorem az {w : World} {f : FuncId} {args : Array Value} {c : Int} (h : Calls Try.prog f args w (AtPost (0, 0, 0) c w)) : Calls Try.prog f args w (AzPost c w) := h.mono fun e w' h => h
theorem bel_st {w w1 w2 : World} (h : Below w.heap.size w w1) (k : Below w1.heap.size w1 w2) : Below w.heap.size w w2 := h.trans (k.mono h.size)
theorem bel_sa {w w1 w2 : World} {o : Obj} (h : Below w.heap.size w w1) (k : Below (w1.alloc o).heap.size (w1.alloc o) w2) : Below w.heap.size w w2 := bel_st (h.alloc h.size o) k
set_option maxHeartbeats 1000000 in
set_option maxRecDepth 100000 in
theorem frameNone_walk (n : Int) (w : World) (h1 : (Lit.int .i64 n).wf = true) : Calls Try.prog 10 #[.int .i64 n] w fun e w' => e = .returned (.bool true) ∧ Below w.heap.size w w' := by
  have HA := Lib.hid (awake20_any w)
  go_enter Try.func10, Try.ntmps10
  go_wp2_with (go_at_call 26; refine HA.out.mono ?_; rintro e w1 ⟨rfl, hb⟩; have HB := Lib.hid hb; clear hb)
  have HP : Hid (∀ w', Calls Try.prog 30 #[.pointer none] w' (AzPost 12 w')) := Lib.hid (fun w' => az (FPop_err _ 12 (.inr rfl) (fun w'' _ => Top_nil w'')))
  have HG : Hid (∀ w', Calls Try.prog 32 #[.pointer none, .int .i64 n] w' (EnPost 12 w')) := Lib.hid (fun w' => FGo_err _ n 12 (.inr rfl) (Top_nil w'))
  go_wp2_with (first
    | (go_at_call 30; refine (HP.out _).mono ?_; rintro e w2 ⟨rfl, hb⟩; have HB2 := Lib.hid (bel_st HB.out hb); clear hb)
    | (go_at_call 31; refine (az (Top_nil _)).mono ?_; rintro e w3 ⟨rfl, hb⟩; have HB3 := Lib.hid (bel_sa HB2.out hb); clear hb)
    | (go_at_call 33; refine (az (At_nil _ _)).mono ?_; rintro e w4 ⟨rfl, hb⟩; have HB4 := Lib.hid (bel_sa HB3.out hb); clear hb)
    | (go_at_call 27; refine (FkNew_nil _ _).mono ?_; rintro e w' ⟨rfl, rfl⟩)
    | (go_at_call 34; refine (Clear_nil _).mono ?_; rintro e w' ⟨rfl, rfl⟩)
    | (go_at_call 28; refine (FPush_nil _ _ _ _).mono ?_; rintro e w5 ⟨rfl, hb⟩; have HB5 := Lib.hid (bel_sa HB4.out hb); clear hb)
    | (go_at_call 32; refine (HG.out _).mono ?_; rintro e w6 ⟨rfl, hb⟩; have HB6 := Lib.hid (bel_st HB5.out hb); clear hb)
    | (go_at_call 36; refine (FClose_nil _).mono ?_; rintro e w' ⟨rfl, rfl⟩)
    | (go_at_call 35; refine (Depth_nil _).mono ?_; rintro e w' ⟨rfl, rfl⟩))
  go_ret
  exact ⟨rfl, HB6.out⟩
end Go.Proofs.Ythfdblpodnodcaa
