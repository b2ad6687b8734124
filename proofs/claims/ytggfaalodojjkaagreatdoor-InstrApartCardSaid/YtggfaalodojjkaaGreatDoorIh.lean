/-
  instr: Encode (of numbers).
-/
import Derived.Test.YtggfaalodojjkaaGreatDoorIg
import Derived.Test.YtggfaalodojjkaaGreatDoorQLn
import Derived.BigGuard
import Derived.Deep.RegionHeld3
namespace Go.Proofs.YtggfaalodojjkaaGreatDoor
open Go.RowKit
set_option linter.unusedVariables false
set_option linter.unusedSimpArgs false
/-- bytes of numbers, one behind the other -/
def putL : List Int → List Nat
  | [] => []
  | z :: l => Leb.enc (Leb.szU z.toNat) z.toNat ++ putL l
def EnP (L : List Nat) (w : World) (e : Ending) (w' : World) : Prop := ∃ A n c, e = .returned (.tuple #[.slice A n c, .int .i64 0]) ∧ Byt w' A n c L ∧ n = L.length ∧ Below w.heap.size w w'
theorem results10 : Tryz.f10.results = #[.tmp 2, .tmp 3] := by kernel_rfl
theorem putL_more (N : List Int) (k : Nat) (hk : k < N.length) : putL (N.take (k + 1)) = putL (N.take k) ++ Leb.enc (Leb.szU (N.getD k 0).toNat) (N.getD k 0).toNat := by
  induction N generalizing k with
  | nil => simp at hk
  | cons z l ih =>
    cases k with
    | zero => simp [putL]
    | succ k =>
      have h := ih k (by simpa using hk)
      simp only [List.take_succ_cons, putL, List.getD_cons_succ, List.append_assoc] at h ⊢
      rw [h]
set_option maxHeartbeats 4000000 in
set_option maxRecDepth 100000 in
theorem enc_walk (cd a b al : Int) (A : Option Addr) (n c : Nat) (hnc : n ≤ c) (hcm : c ≤ 9223372036854775807) (w : World) (fi fo : Int) (nm : ByteArray) (nt ng : Nat) (hfo : fo ≠ 11) (H : List Nat) (N : List Int) (hN : N.length ≤ 10) (hz : ∀ z ∈ N, 0 ≤ z ∧ z < 18446744073709551616) (hH : H.length ≤ 20)
    (HO : Hid (∀ W, Below w.heap.size w W → Calls Tryz.prog 29 #[.agg #[.int .i64 cd, .int .u64 a, .int .u64 b, .int .i64 al, .slice A n c]] W fun e w' => ∃ At ct Ag cg, nt ≤ ct ∧ ct ≤ 9223372036854775807 ∧ ng ≤ cg ∧ cg ≤ 9223372036854775807 ∧ e = .returned (.tuple #[.agg #[.int .i64 fi, .string nm, .int .i64 fo, .slice At nt ct, .slice Ag ng cg], .bool true]) ∧ Below W.heap.size W w'))
    (HH : Hid (∀ W, Calls Tryz.prog 30 #[.int .i64 cd] W (HdP H W)))
    (HN : Hid (∀ W, Calls Tryz.prog 34 #[.agg #[.int .i64 cd, .int .u64 a, .int .u64 b, .int .i64 al, .slice A n c], .int .i64 fo] W (NuP N W))) :
    Calls Tryz.prog 10 #[.agg #[.int .i64 cd, .int .u64 a, .int .u64 b, .int .i64 al, .slice A n c]] w (EnP (H ++ putL N) w) := by
  obtain ⟨W0, hW0⟩ : ∃ V, V = w.alloc (.cells #[.int .i64 cd, .int .u64 a, .int .u64 b, .int .i64 al, .slice A n c] 30) := ⟨_, rfl⟩
  obtain ⟨bx, hbx⟩ : ∃ x, x = w.heap.size := ⟨_, rfl⟩
  have hb0 : Below w.heap.size w W0 := by rw [hW0]; exact (Below.refl _ _).alloc (Nat.le_refl _) _
  have hX0 : Blk W0 bx 30 #[.int .i64 cd, .int .u64 a, .int .u64 b, .int .i64 al, .slice A n c] := by rw [hW0, hbx]; exact Blk.new w 30 _
  have HB0 := Lib.hid hb0
  have HX := Lib.hid (fun V (hV : Below W0.heap.size W0 V) => hX0.below hV hX0.lt)
  have HO0 := Lib.hid (HO.out W0 hb0)
  have HW0 := Lib.hid hW0
  have HBX := Lib.hid hbx
  have x0 : W0.cell? ⟨bx, 0, none⟩ = some (.int .i64 cd) := hX0.cell 0
  have x1 : W0.cell? ⟨bx, 1, none⟩ = some (.int .u64 a) := hX0.cell 1
  have x2 : W0.cell? ⟨bx, 2, none⟩ = some (.int .u64 b) := hX0.cell 2
  have x3 : W0.cell? ⟨bx, 3, none⟩ = some (.int .i64 al) := hX0.cell 3
  have x4 : W0.cell? ⟨bx, 4, none⟩ = some (.slice A n c) := hX0.cell 4
  have hf2 : (fo == 11) = false := by simpa using hfo
  clear hb0 hX0 hW0 hbx HO hfo
  go_enter Tryz.func10, Tryz.ntmps10
  go_upto_region 1 with fail
  rw [← HBX.out]
  rw [← HW0.out]
  go_upto_region 2 with (first
    | (go_at_call 29; (with_reducible refine HO0.out.mono ?_); rintro e w1 ⟨At, ct, Ag, cg, hnt, hct, hng, hcg, rfl, hb1⟩
       have HW1 := Lib.hid hb1
       clear hb1))
  obtain ⟨W5, hW5⟩ : ∃ V, V = w1.alloc (.cells #[.int .i64 fi, .string nm, .int .i64 fo, .slice At nt ct, .slice Ag ng cg] 61) := ⟨_, rfl⟩
  obtain ⟨b4, hb4⟩ : ∃ x, x = w1.heap.size := ⟨_, rfl⟩
  have h15 : Below w1.heap.size w1 W5 := by rw [hW5]; exact (Below.refl _ _).alloc (Nat.le_refl _) _
  have hI : Blk W5 b4 61 #[.int .i64 fi, .string nm, .int .i64 fo, .slice At nt ct, .slice Ag ng cg] := by rw [hW5, hb4]; exact Blk.new w1 61 _
  rw [← hb4, ← hW5]
  have hxb := HX.out W5 (HW1.out.trans (h15.mono HW1.out.size))
  have H5 := Lib.hid (HW1.out.trans (h15.mono HW1.out.size))
  have HI := Lib.hid (fun V (hV : Below W5.heap.size W5 V) => hI.below hV hI.lt)
  clear x0 x1 x2 x3 x4
  have x0 : W5.cell? ⟨bx, 0, none⟩ = some (.int .i64 cd) := hxb.cell 0
  clear h15 hI hW5 hb4 hxb
  go_wp2_with fail
  with_reducible refine (HH.out _).mono ?_
  rintro e w2 ⟨Ah, nh, ch, rfl, hhy, hb2, hnh⟩
  have HHY := Lib.hid hhy
  have HNH := Lib.hid hnh
  have hch := hhy.2.2.1
  have hchm := hhy.2.2.2.1
  unfold maxLen at hchm
  have H2 := Lib.hid (H5.out.trans (hb2.mono H5.out.size))
  have hib := HI.out w2 hb2
  have hxb := HX.out w2 H2.out
  have i2 : w2.cell? ⟨b4, 2, none⟩ = some (.int .i64 fo) := hib.cell 2
  clear x0 hhy hnh hb2
  have x0 : w2.cell? ⟨bx, 0, none⟩ = some (.int .i64 cd) := hxb.cell 0
  have x1 : w2.cell? ⟨bx, 1, none⟩ = some (.int .u64 a) := hxb.cell 1
  have x2 : w2.cell? ⟨bx, 2, none⟩ = some (.int .u64 b) := hxb.cell 2
  have x3 : w2.cell? ⟨bx, 3, none⟩ = some (.int .i64 al) := hxb.cell 3
  have x4 : w2.cell? ⟨bx, 4, none⟩ = some (.slice A n c) := hxb.cell 4
  clear hib hxb
  go_wp2_with fail
  with_reducible refine (HN.out _).mono ?_
  rintro e w3 ⟨An, nn, cn, rfl, hsl, hb3⟩
  have hcn := hsl.2.1
  have hcnm := hsl.2.2.1
  have hnl := hsl.1
  subst hnl
  unfold maxLen at hcnm
  have H3 := Lib.hid (HB0.out.trans ((H2.out.trans (hb3.mono H2.out.size)).mono HB0.out.size))
  have HHY3 := Lib.hid (HHY.out.kept hb3)
  have HSL := Lib.hid hsl
  have HHL := Lib.hid hH
  have HZ := Lib.hid hz
  clear x0 x1 x2 x3 x4 i2 hsl hb3 hH hz
  go_wp2_with fail
  go_loopw [34, 6] (fun v34 v6 wr => ∃ (k : Nat) (g : Option Addr) (m cp : Nat), k ≤ N.length ∧ v34 = .int .i64 k ∧ v6 = .slice g m cp ∧ m ≤ cp ∧ cp ≤ 9223372036854775807 ∧ m ≤ 20 + 10 * k ∧ Hid (Byt wr g m cp (H ++ putL (N.take k))) ∧ Hid (m = (H ++ putL (N.take k)).length) ∧ Hid (Below w3.heap.size w3 wr)) (fun v34 _ _ => N.length - (intOf v34).toNat)
  case atStart => exact ⟨0, Ah, nh, ch, by omega, rfl, rfl, hch, hchm, by have := HNH.out; have := HHL.out; omega, Lib.hid (by simpa [putL] using HHY3.out), Lib.hid (by simpa [putL] using HNH.out), Lib.hid (Below.refl _ _)⟩
  case round =>
    obtain ⟨k, g, m, cp, hk, rfl, rfl, hm1, hm2, hm3, HY, HM, HB⟩ := hrel
    by_cases hlt : k < N.length
    · obtain ⟨bn, off, rfl, hbl, hcell⟩ := HSL.out.2.2.2 (by omega)
      have h0 := (HB.out.cell (p := ⟨bn, off + k, none⟩) hbl).trans (hcell k hlt)
      unfold U64 at h0
      have hzz := HZ.out (N.getD k 0) (by rw [List.getD_eq_getElem?_getD, List.getElem?_eq_getElem hlt]; exact List.getElem_mem hlt)
      have HPL := Lib.hid (putL_more N k hlt)
      clear hcell
      generalize N.getD k 0 = z at h0 hzz HPL
      obtain ⟨q, rfl⟩ := Int.eq_ofNat_of_zero_le hzz.1
      have HP := Lib.hid (Put_any g m cp (H ++ putL (N.take k)) q wr HY.out (by omega) (by omega))
      have HSZ := Lib.hid (Leb.szU_le 9 q (by omega))
      rw [Int.toNat_natCast] at HPL
      unfold PutPost at HP
      go_wp2_with fail
      with_reducible refine HP.out.mono ?_
      rintro e w4 ⟨g4, cp4, rfl, hby, hb4⟩
      have HY4 : Hid (Byt w4 (some ⟨g4, 0, none⟩) (m + Leb.szU q + 1) cp4 (H ++ putL (N.take (k + 1)))) := Lib.hid (by rw [HPL.out, ← List.append_assoc]; exact hby)
      have HB4 := Lib.hid (HB.out.trans (hb4.mono HB.out.size))
      have HM4 : Hid (m + Leb.szU q + 1 = (H ++ putL (N.take (k + 1))).length) := Lib.hid (by rw [HPL.out, ← List.append_assoc, List.length_append, enc_len, ← HM.out]; omega)
      have q1 := hby.2.2.1
      have q2 := hby.2.2.2.1
      unfold maxLen at q2
      clear hby hb4
      obtain ⟨mm, hmm⟩ : ∃ mm, mm = m + Leb.szU q + 1 := ⟨_, rfl⟩
      have hmm2 : mm ≤ 20 + 10 * (k + 1) := by have := HSZ.out; omega
      rw [← hmm] at HY4 HM4 q1 ⊢
      clear hmm
      go_wp2
      go_roundw
      case rel => exact ⟨k + 1, some ⟨g4, 0, none⟩, mm, cp4, by omega, by go_num, rfl, q1, by omega, hmm2, HY4, HM4, HB4⟩
      case measure => simp [intOf]; omega
    · obtain rfl : k = N.length := by omega
      go_wp2
      refine bodyPost_ret (results_tmp2 results10 _ _ _) rfl ?_
      have hy := HY.out
      have hmm := HM.out
      rw [List.take_of_length_le (Nat.le_refl _)] at hy hmm
      exact ⟨g, m, cp, rfl, hy, hmm, H3.out.trans (HB.out.mono H3.out.size)⟩
end Go.Proofs.YtggfaalodojjkaaGreatDoor
