/-
  strconv.FormatUint in tens; what the laws of texts want of the variables.
-/
import Derived.Test.YtggfaalodojjkaaGreatDoorVKa
import Derived.Test.YtggfaalodojjkaaGreatDoorVS
import Derived.Test.YtggfaalodojjkaaGreatDoorVWa
import Derived.Test.YtggfaalodojjkaaGreatDoorOOe
import Derived.Lib.AppendIntMem
import Derived.Lib.AtoiErrMem
namespace Go.Proofs.YtggfaalodojjkaaGreatDoor
open Go.RowKit Go.ChangeShapes Go.WideShapes Go.ChangeAt Go.Sort Go.Lib
set_option linter.unusedVariables false
set_option linter.unusedSimpArgs false
def bs (l : List UInt8) : ByteArray := ⟨l.toArray⟩
theorem bs_size (a : List UInt8) : (bs a).size = a.length := by simp [bs, ByteArray.size]
theorem bs_app (a b : List UInt8) : bs a ++ bs b = bs (a ++ b) := by
  apply ByteArray.ext; simp [bs, ByteArray.data_append]
theorem bs_list (a : List UInt8) : (bs a).toList = a := by rw [Lib.toList_data]; simp [bs]
theorem bs_beq (a b : List UInt8) : ((bs a).toList == (bs b).toList) = (a == b) := by rw [bs_list, bs_list]
theorem cat_bs (a b : List UInt8) (h : a.length + b.length ≤ 100000) : Op.stringOp .add (bs a) (bs b) = pure (.string (bs (a ++ b))) := by
  unfold Op.stringOp
  simp only []
  rw [if_neg, bs_app]
  show ¬ ((((bs a).size + (bs b).size : Nat) : Int) > 9223372036854775807)
  rw [bs_size, bs_size]; omega
/-- what the laws of texts want of the variables -/
structure Lw (w : World) : Prop where
  tb : Tb w ∧ 0 < w.heap.size
  ml : 3 < w.heap.size ∧ ∃ m, w.cell? ⟨3, 0, none⟩ = some (.int .i64 m)
  tab : Lib.TabIs Tryz.prog w "internal/strconv.uint64pow10" .u64 Lib.pow10Tab
  es : 7 < w.heap.size ∧ ∃ te pe, w.cell? ⟨7, 0, none⟩ = some (.iface te pe)
  er : 8 < w.heap.size ∧ ∃ te pe, w.cell? ⟨8, 0, none⟩ = some (.iface te pe)
  db : 10 < w.heap.size ∧ w.cell? ⟨10, 15, none⟩ = some (.int .u8 4)
theorem Lw.below {w w' : World} (h : Lw w) (hb : Below w.heap.size w w') : Lw w' :=
  ⟨⟨fun i hi => (hb.cell (p := ⟨0, i, none⟩) h.tb.2).trans (h.tb.1 i hi), Nat.lt_of_lt_of_le h.tb.2 hb.size⟩,
    ⟨Nat.lt_of_lt_of_le h.ml.1 hb.size, by obtain ⟨m, e⟩ := h.ml.2; exact ⟨m, (hb.cell (p := ⟨3, 0, none⟩) h.ml.1).trans e⟩⟩,
    Lib.tabBelow_of_tabIs h.tab w' hb,
    ⟨Nat.lt_of_lt_of_le h.es.1 hb.size, by obtain ⟨te, pe, e⟩ := h.es.2; exact ⟨te, pe, (hb.cell (p := ⟨7, 0, none⟩) h.es.1).trans e⟩⟩,
    ⟨Nat.lt_of_lt_of_le h.er.1 hb.size, by obtain ⟨te, pe, e⟩ := h.er.2; exact ⟨te, pe, (hb.cell (p := ⟨8, 0, none⟩) h.er.1).trans e⟩⟩,
    ⟨Nat.lt_of_lt_of_le h.db.1 hb.size, (hb.cell (p := ⟨10, 15, none⟩) h.db.1).trans h.db.2⟩⟩
theorem al82 : Tryz.prog.arrayLen 211 = 24 := by kernel_rfl
set_option maxHeartbeats 4000000 in
set_option maxRecDepth 100000 in
theorem IFU10 (u : Nat) (hu : u < 18446744073709551616) (w : World) (hL : Lw w) :
    Calls Tryz.prog 121 #[.int .u64 u, .int .i64 10] w fun e w' => e = .returned (.string (bs (Lib.decDigits u))) ∧ Below w.heap.size w w' := by
  by_cases hs : u < 100
  · have S := Lib.hid (fun W : World => Tryz.internal_strconv_small u hs W)
    go_enter Tryz.func121, Tryz.ntmps121
    go_wp2_with (go_at_call 140; refine (S.out _).mono ?_; rintro e w' ⟨rfl, rfl⟩)
    go_ret
    exact ⟨rfl, Below.refl _ _⟩
  · have h1 : 1 ≤ u := by omega
    have hn20 : Lib.nDigits u ≤ 20 := by have := Lib.numDigits_eq u h1 hu; split at this <;> omega
    obtain ⟨d, ed⟩ : ∃ d, d = Lib.nDigits u := ⟨_, rfl⟩
    have ND := Lib.hid (Tryz.internal_strconv_numDigits u h1 hu (w.alloc (.cells Lib.zeros24 211)) (Lib.tabIs_alloc hL.tab _))
    have hz := Lib.holds_zero0 w 211 (Lib.nDigits u) (by omega)
    have FB := Tryz.internal_strconv_formatBase10 w.heap.size 0 24 u (Array.replicate (Lib.nDigits u) 0) (w.alloc (.cells Lib.zeros24 211)) hz (by rw [Array.size_replicate]; exact Lib.lt_pow_nDigits u) hu (by rw [Array.size_replicate]; omega)
    rw [Array.size_replicate] at FB
    have HZ := Lib.hid hz
    have HFB := Lib.hid FB
    have hcut : ∀ W, (Instr.sliceAt 211 (.pointer (some ⟨w.heap.size, 0, none⟩)) none (some (.int .i64 ((Lib.nDigits u : Nat) : Int))) none).run Tryz.prog W = .ok (.slice (some ⟨w.heap.size, 0, none⟩) (Lib.nDigits u) 24) W := fun W => by
      rw [run_sliceAt_array_h W 211 ⟨w.heap.size, 0, none⟩ (by simp [Program.arrayLen, Program.elem, Tryz.underlying211]) .i64 ((Lib.nDigits u : Nat) : Int) (by omega) (by rw [al82]; omega)]
      go_simp
    have CV : Hid (∀ (k v' : Nat) (dk : Array UInt8), FmtInv (Lib.nDigits u) u 0 v' dk → (convert 27 9 (.slice (some ⟨w.heap.size, 0, none⟩) (Lib.nDigits u) 24)).run Tryz.prog ((putRow (fun (b : UInt8) => Value.int .u8 (b.toNat : Int)) (w.alloc (.cells Lib.zeros24 211)) w.heap.size 0 dk).drewN k) = .ok (.string (bs (Lib.decDigits u))) ((putRow (fun (b : UInt8) => Value.int .u8 (b.toNat : Int)) (w.alloc (.cells Lib.zeros24 211)) w.heap.size 0 dk).drewN k)) := Lib.hid (fun k v' dk hF => by
      have h := run_convert_bytes_back (P := Tryz.prog) ((putRow (fun (b : UInt8) => Value.int .u8 (b.toNat : Int)) (w.alloc (.cells Lib.zeros24 211)) w.heap.size 0 dk).drewN k) 27 9 5 ⟨w.heap.size, 0, none⟩ 24 (Lib.decDigits u) Tryz.underlying27 Tryz.underlying5 Tryz.underlying9 (fun j hj => by
        rw [Lib.row_is_numeral hF j hj, Lib.add_plain, World.cell?_drewN]
        exact cell?_putRow (fun (b : UInt8) => Value.int .u8 (b.toNat : Int)) _ w.heap.size 0 _ dk HZ.out (by rw [hF.size, Array.size_replicate]) j (by rw [hF.size]; rw [Lib.decDigits_length] at hj; exact hj))
      rw [Lib.decDigits_length] at h
      exact h)
    have FIN : Hid (∀ (k : Nat) (dk : Array UInt8), Below w.heap.size w ((putRow (fun (b : UInt8) => Value.int .u8 (b.toNat : Int)) (w.alloc (.cells Lib.zeros24 211)) w.heap.size 0 dk).drewN k)) := Lib.hid (fun k dk => by
      rw [alloc_eq_grow]
      obtain ⟨os', _, e⟩ := putRow_grow_new (fun (b : UInt8) => Value.int .u8 (b.toNat : Int)) w #[.cells Lib.zeros24 211] w.heap.size 0 dk (Nat.le_refl _)
      rw [e]
      exact Lib.below_grow _ _ (Nat.le_refl _) _ _)
    have hd20 : ((Lib.nDigits u : Nat) : Int) ≤ 20 := by omega
    have hu100 : ¬ (u : Int) < 100 := by omega
    clear hz FB hL ed
    generalize Lib.nDigits u = nd at ND HFB hcut CV hd20
    go_enter Tryz.func121, Tryz.ntmps121
    go_wp2_with (first
      | (go_at_call 141; refine ND.out.mono ?_; rintro e w' ⟨rfl, rfl⟩)
      | (go_at_call 142; refine HFB.out.mono ?_; rintro e w' ⟨rfl, k, v', dk, rfl, hF⟩; have hcv := CV.out k v' dk hF; clear hF))
    go_ret
    exact ⟨rfl, FIN.out k dk⟩
theorem FU10 (u : Nat) (hu : u < 18446744073709551616) (w : World) (hL : Lw w) :
    Calls Tryz.prog 91 #[.int .u64 u, .int .i64 10] w fun e w' => e = .returned (.string (bs (Lib.decDigits u))) ∧ Below w.heap.size w w' := by
  have H := Lib.hid (IFU10 u hu w hL)
  clear hL hu
  go_enter Tryz.func91, Tryz.ntmps91
  go_wp2_with (go_at_call 121; refine H.out.mono ?_; rintro e w' ⟨rfl, hb⟩; have HB := Lib.hid hb; clear hb)
  go_ret
  exact ⟨rfl, HB.out⟩
theorem FI10 (n : Int) (h0 : -9223372036854775808 ≤ n) (h1 : n ≤ 9223372036854775807) (w : World) (hL : Lw w) :
    Calls Tryz.prog 92 #[.int .i64 n, .int .i64 10] w fun e w' => e = .returned (.string (bs (Lib.itoa n))) ∧ Below w.heap.size w w' := by
  refine (Tryz.strconv_FormatInt_10 n h0 h1 w hL.tab).mono ?_
  rintro e w' ⟨rfl, k, os, rfl⟩
  exact ⟨rfl, Lib.below_grow _ _ (Nat.le_refl _) _ _⟩
/-- conv.Print -/
theorem Print_ok (n : Int) (a : Nat) (ha : a < 18446744073709551616) (w : World) (hL : Lw w) :
    Calls Tryz.prog 64 #[.int .i64 n, .int .u64 a] w fun e w' => e = .returned (.string (bs (Lib.itoa (Wd.sgn n a)))) ∧ Below w.heap.size w w' := by
  have hf := sgn_fit n a ha
  have S := Lib.hid (fun W : World => Sign_any n a W ha)
  have F := Lib.hid (FI10 (Wd.sgn n a) (by omega) (by omega) w hL)
  generalize Wd.sgn n a = x at S F
  clear hL ha hf
  go_enter Tryz.func64, Tryz.ntmps64
  go_wp2_with (first
    | (go_at_call 93; refine (S.out _).mono ?_; rintro e w1 ⟨rfl, rfl⟩)
    | (go_at_call 92; refine F.out.mono ?_; rintro e w2 ⟨rfl, hb⟩; have HB := Lib.hid hb; clear hb))
  go_ret
  exact ⟨rfl, HB.out⟩
end Go.Proofs.YtggfaalodojjkaaGreatDoor
