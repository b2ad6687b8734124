/-
  instr: numbers' texts (tens), rows of strings.
-/
import Derived.Test.YtggfaalodojjkaaGreatDoorIFc
import Derived.Test.YtggfaalodojjkaaGreatDoorVKb
namespace Go.Proofs.YtggfaalodojjkaaGreatDoor
open Go.RowKit
set_option linter.unusedVariables false
set_option linter.unusedSimpArgs false
/-- a string as a value -/
def Sv (l : List UInt8) : Value := .string (bs l)
theorem info9 : (Tryz.prog.info? 9).map (fun i => (i.zero, i.size, i.bytes)) = some (some (.string ⟨#[]⟩), 1, 16) := by kernel_rfl
theorem take_moreS (l : List Int) (k : Nat) (h : k < l.length) : l.take (k + 1) = l.take k ++ [l.getD k 0] := by
  rw [List.take_succ_eq_append_getElem h, List.getD_eq_getElem?_getD, List.getElem?_eq_getElem h]; rfl
/-- a number's text -/
def tn (z : Int) : List UInt8 := Lib.decDigits z.toNat
/-- the row that tens makes -/
def TnP (l : List Int) (w : World) (e : Ending) (w' : World) : Prop :=
  ∃ v, e = .returned v ∧ w'.ownsRow w.heap.size 9 1 v l.length (l.map fun z => Sv (tn z)) ∧ Below w.heap.size w w'
set_option maxHeartbeats 4000000 in
set_option maxRecDepth 100000 in
theorem tens_ok (A : Option Addr) (n c : Nat) (l : List Int) (w : World) (hl : Sl w A n c l) (hn : n ≤ 200000) (hz : ∀ z ∈ l, 0 ≤ z ∧ z < 18446744073709551616) (hL : Lw w) :
    Calls Tryz.prog 63 #[.slice A n c] w (TnP l w) := by
  obtain ⟨i0, hi, hz0, hz1, hz2⟩ := info_parts info9
  obtain ⟨hln, hnc, hcm, hc⟩ := hl
  have HC := Lib.hid hc
  have HF := Lib.hid (fun (z : Int) (V : World) (hb : Below w.heap.size w V) (h : 0 ≤ z ∧ z < 18446744073709551616) => (FU10 z.toNat (by omega) V (hL.below hb)))
  have HZ := Lib.hid (fun (k : Nat) (hk : k < l.length) => (hz (l.getD k 0) (by rw [List.getD_eq_getElem?_getD, List.getElem?_eq_getElem hk]; exact List.getElem_mem hk)))
  unfold maxLen at hcm
  clear hc hL hz
  go_enter Tryz.func63, Tryz.ntmps63
  go_wp2_with fail
  go_loopw [3, 8] (fun v3 v8 wr => ∃ k : Nat, k ≤ n ∧ v8 = .int .i64 k ∧ Hid (wr.ownsRow w.heap.size 9 1 v3 k ((l.take k).map fun z => Sv (tn z))) ∧ Hid (Below w.heap.size w wr)) (fun _ v8 _ => n - (intOf v8).toNat)
  case atStart => exact ⟨0, by omega, rfl, Lib.hid (World.ownsRow_nil _ _ _ _), Lib.hid (Below.refl _ _)⟩
  case round =>
    obtain ⟨k, hk, rfl, HO, HB⟩ := hrel
    by_cases hlt : k < n
    · obtain ⟨g, o, rfl, hg, hcl⟩ := HC.out (by omega)
      have hx : wr.cell? ⟨g, o + k, none⟩ = some (.int .u64 (l.getD k 0)) := (HB.out.cell (p := ⟨g, o + k, none⟩) hg).trans (hcl k hlt)
      have HY := Lib.hid (HZ.out k (by omega))
      have HT := Lib.hid (take_moreS l k (by omega))
      clear hcl
      generalize l.getD k 0 = z at hx HY HT
      have HCl := Lib.hid (HF.out z wr HB.out HY.out)
      have hzz : ((z.toNat : Nat) : Int) = z := by have := HY.out; omega
      rw [hzz] at HCl
      clear hzz
      obtain ⟨T, hT⟩ : ∃ T, T = bs (Lib.decDigits z.toNat) := ⟨_, rfl⟩
      rw [← hT] at HCl
      have HTT := Lib.hid hT
      clear hT
      go_wp2_with (first
        | (go_at_call 91; refine HCl.out.mono ?_; rintro e w2 ⟨rfl, hb⟩
           have HO2 := Lib.hid (own_kept HO.out hb)
           have HB2 := Lib.hid (HB.out.trans (hb.mono HB.out.size))
           clear hb)
        | (at_builtin; refine wpList_append_own _ rfl (.tmp 12) (.tmp 15) 73 rfl w.heap.size 9 i0 _ 1 16 Tryz.underlying73 hi hz0 hz1 hz2 rfl (by decide) _ k _ rfl (HO2.out.alloc _) ⟨w2.heap.size, 0, none⟩ 1 1 [.string T] rfl rfl (cell_new _ _ _) ?c2 ?c3 ?c4 ?c5 ?_))
      case c2 => intro u hu; simp at hu; subst hu; rfl
      case c3 => unfold maxLen; omega
      case c4 => omega
      case c5 => have := HB2.out.size; simp; omega
      intro v1 w3 hown1 hg1 _
      have HB3 : Hid (Below w.heap.size w w3) := Lib.hid (own_below HB2.out HB2.out.size HO2.out hg1)
      have HO3 : Hid (w3.ownsRow w.heap.size 9 1 v1 (k + 1) ((l.take (k + 1)).map fun z => Sv (tn z))) := Lib.hid (by
        rw [HT.out, List.map_append, List.map_take]
        rw [HTT.out] at hown1
        exact hown1)
      clear hown1 hg1
      go_wp2
      go_roundw
      case rel => exact ⟨k + 1, by omega, by go_num, HO3, HB3⟩
      case measure => simp [intOf]; omega
    · obtain rfl : k = n := by omega
      go_wp2
      go_ret
      rw [List.take_of_length_le (by omega)] at HO
      exact ⟨_, rfl, hln ▸ HO.out, HB.out⟩
end Go.Proofs.YtggfaalodojjkaaGreatDoor
