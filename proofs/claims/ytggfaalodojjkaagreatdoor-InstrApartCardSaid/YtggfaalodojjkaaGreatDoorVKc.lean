/-
  strconv.FormatUint in sixteens, conv.Hex.
-/
import Derived.Test.YtggfaalodojjkaaGreatDoorVKb
namespace Go.Proofs.YtggfaalodojjkaaGreatDoor
open Go.RowKit Go.ChangeShapes Go.WideShapes Go.ChangeAt
set_option linter.unusedVariables false
set_option linter.unusedSimpArgs false
def dgS : ByteArray := ⟨#[48, 49, 50, 51, 52, 53, 54, 55, 56, 57, 97, 98, 99, 100, 101, 102, 103, 104, 105, 106, 107, 108, 109, 110, 111, 112, 113, 114, 115, 116, 117, 118, 119, 120, 121, 122]⟩
/-- a row of 65 cells at whose end a text stands -/
structure Tl (w : World) (b : Nat) (t : List UInt8) : Prop where
  ex : ∃ cs : Array Value, Blk w b 236 cs ∧ cs.size = 65
  len : t.length ≤ 65
  at_ : ∀ j, j < t.length → w.cell? ⟨b, 65 - t.length + j, none⟩ = some (.int .u8 ((t.getD j 0).toNat : Int))
theorem Tl.cell {w : World} {b : Nat} {t : List UInt8} (h : Tl w b t) {i : Nat} (hi : i < 65) : ∃ v, w.cell? ⟨b, i, none⟩ = some v := by
  obtain ⟨cs, hb, hs⟩ := h.ex
  exact ⟨_, by rw [hb.cell i]; exact Array.getElem?_eq_getElem (by omega)⟩
theorem Tl.frozen {w : World} {b : Nat} {t : List UInt8} (h : Tl w b t) (i : Nat) : w.frozen? ⟨b, i, none⟩ = false := by
  obtain ⟨cs, hb, hs⟩ := h.ex
  exact hb.frozen i
theorem Tl.put {w : World} {b : Nat} {t : List UInt8} (h : Tl w b t) (c : UInt8) (hl : t.length < 65) : Tl (w.setCell ⟨b, 64 - t.length, none⟩ (.int .u8 (c.toNat : Int))) b (c :: t) := by
  obtain ⟨cs, hb, hs⟩ := h.ex
  obtain ⟨v, hv⟩ := h.cell (i := 64 - t.length) (by omega)
  refine ⟨⟨_, hb.set_ (64 - t.length) _, by simp [hs]⟩, by simp; omega, fun j hj => ?_⟩
  rw [List.length_cons] at hj ⊢
  rcases j with _ | j
  · rw [show 65 - (t.length + 1) + 0 = 64 - t.length by omega]
    exact World.cell?_setCell_same _ _ _ hv
  · rw [show 65 - (t.length + 1) + (j + 1) = 65 - t.length + j by omega]
    rw [World.cell?_setCell_other _ _ _ _ (by intro e; injection e with _ e; omega)]
    exact h.at_ j (by omega)
theorem run_dg (r : Nat) (h : r < 16) (W : World) : (Instr.index 9 (.string dgS) (.int .u64 (r : Int))).run Tryz.prog W = .ok (.int .u8 ((hxD r).toNat : Int)) W := by
  rcases (by omega : r = 0 ∨ r = 1 ∨ r = 2 ∨ r = 3 ∨ r = 4 ∨ r = 5 ∨ r = 6 ∨ r = 7 ∨ r = 8 ∨ r = 9 ∨ r = 10 ∨ r = 11 ∨ r = 12 ∨ r = 13 ∨ r = 14 ∨ r = 15) with rfl | rfl | rfl | rfl | rfl | rfl | rfl | rfl | rfl | rfl | rfl | rfl | rfl | rfl | rfl | rfl
  all_goals kernel_rfl
theorem hex_step (u : Nat) (t : List UInt8) (h : 16 ≤ u) : hexDigits u ++ t = hexDigits (u / 16) ++ (hxD (u % 16) :: t) := by
  rw [hexDigits, dif_neg (by omega), List.append_assoc]; rfl
theorem al90 : Tryz.prog.arrayLen 236 = 65 := by kernel_rfl
theorem addr_add (b off j : Nat) : (⟨b, off, none⟩ : Addr).add j = ⟨b, off + j, none⟩ := by cases j <;> rfl
theorem TZ16 (w : World) (h : w.cell? ⟨10, 15, none⟩ = some (.int .u8 4)) :
    Calls Tryz.prog 175 #[.int .u64 16] w fun e w' => e = .returned (.int .i64 4) ∧ w = w' := by
  have hn : IntKind.u64.wrap (-16) = 18446744073709551600 := by decide
  have e1 : bits BinOp.and IntKind.u64 16 18446744073709551600 = 16 := by decide
  have e2 : IntKind.u64.wrap (16 * 285870213051353865) / 288230376151711744 = 15 := by decide
  go_enter Tryz.func175, Tryz.ntmps175
  go_wp2
  go_ret
  exact ⟨rfl, rfl⟩
set_option maxHeartbeats 4000000 in
set_option maxRecDepth 100000 in
theorem FB16 (u : Nat) (hu : u < 18446744073709551616) (w : World) (hL : Lw w) :
    Calls Tryz.prog 143 #[.slice none 0 0, .int .u64 u, .int .i64 16, .bool false, .bool false] w fun e w' => e = .returned (.tuple #[.slice none 0 0, .string (bs (hexDigits u))]) ∧ Below w.heap.size w w' := by
  have HU := Lib.hid hu
  have HLn := Lib.hid (hex_len 15 u (by omega))
  have TZ : Hid (∀ W : World, Below w.heap.size w W → Calls Tryz.prog 175 #[.int .u64 16] W fun e w' => e = .returned (.int .i64 4) ∧ W = w') := Lib.hid (fun W hb => by
    exact TZ16 W (hL.below hb).db.2)
  clear hL hu
  have hb16 : bits BinOp.and IntKind.i64 16 15 = 0 := by decide
  have hZ : Tl (w.alloc (.cells Tryz.zeroCells236 236)) w.heap.size [] := ⟨⟨_, Blk.new w 236 _, by kernel_rfl⟩, by decide, fun j hj => by simp at hj⟩
  have HZ := Lib.hid hZ
  have HB0 : Hid (Below w.heap.size w (w.alloc (.cells Tryz.zeroCells236 236))) := Lib.hid ((Below.refl _ w).alloc (Nat.le_refl _) _)
  clear hZ
  generalize hH : hexDigits u = H9 at HLn
  have HH := Lib.hid hH
  clear hH
  go_enter Tryz.func143, Tryz.ntmps143
  go_wp2_with (first
    | (go_at_call 175; refine (TZ.out _ ((Below.refl _ w).alloc (Nat.le_refl _) _)).mono ?_; rintro e w1 ⟨rfl, rfl⟩)
    | go_in)
  go_loopw [1, 13] (fun v1 v13 wr => ∃ (m : Nat) (t : List UInt8), v1 = .int .u64 m ∧ v13 = .int .i64 ((65 - t.length : Nat) : Int) ∧ m < 18446744073709551616 ∧ Hid (H9 = hexDigits m ++ t) ∧ t.length < 16 ∧ Hid (Tl wr w.heap.size t) ∧ Hid (Below w.heap.size w wr)) (fun v1 _ _ => (intOf v1).toNat)
  case atStart => exact ⟨u, [], rfl, rfl, HU.out, Lib.hid (by rw [← HH.out]; simp), by decide, HZ, HB0⟩
  case round =>
    clear HZ HB0 HH HU
    obtain ⟨m, t, rfl, rfl, hm, HE, ht, HT, HBl⟩ := hrel
    have hne : (hexDigits m).length + t.length ≤ 16 := by
      have h1 := HLn.out
      rw [HE.out, List.length_append] at h1; exact h1
    by_cases h16 : 16 ≤ m
    · have HE2 := Lib.hid (HE.out.trans (hex_step m t h16))
      have hpos : 0 < (hexDigits (m / 16)).length := List.length_pos_iff.2 (hex_facts (m / 16)).2.2.1
      have ht15 : t.length < 15 := by
        have h1 := HLn.out
        rw [HE2.out, List.length_append, List.length_cons] at h1; omega
      have hand : bits BinOp.and IntKind.u64 (m : Int) 15 = ((m % 16 : Nat) : Int) := by
        have := u64_and_nat m 15 hm (by decide)
        rw [show m &&& 15 = m % 16 from Nat.and_two_pow_sub_one_eq_mod m 4] at this
        exact this
      have hr : m % 16 < 16 := Nat.mod_lt _ (by decide)
      have hdg := run_dg (m % 16) hr
      have HP := Lib.hid (HT.out.put (hxD (m % 16)) (by omega))
      obtain ⟨v0, x0⟩ := HT.out.cell (i := 64 - t.length) (by omega)
      have z0 := HT.out.frozen (64 - t.length)
      have HB2 := Lib.hid (HBl.out.setCell (p := ⟨w.heap.size, 64 - t.length, none⟩) (Nat.le_refl _) (.int .u8 ((hxD (m % 16)).toNat : Int)))
      have hi1 : ((65 - t.length : Nat) : Int) - 1 = ((64 - t.length : Nat) : Int) := by omega
      have hi2 : 64 - t.length < 65 := by omega
      have hsh : Op.shift .shr .u64 (m : Int) .u64 4 = pure (.int .u64 ((m / 16 : Nat) : Int)) := by
        rw [shift_shr .u64 .u64 (m : Int) 4 (by decide) (by decide)]
        rfl
      have hge : (16 : Int) ≤ (m : Int) := by omega
      unfold dgS at hdg
      generalize (65 - t.length : Nat) = i65 at hi1
      generalize hI : (64 - t.length : Nat) = i64 at hi1 hi2 HP x0 z0 HB2
      have HI := Lib.hid hI
      clear hI hne HE hpos
      generalize hR : m % 16 = r at hand hdg hr HP HB2 HE2
      clear hR
      go_wp2
      go_roundw
      case rel => exact ⟨m / 16, hxD r :: t, rfl, by rw [← HI.out, List.length_cons]; congr 2; omega, by omega, HE2, by rw [List.length_cons]; omega, HP, HB2⟩
      case measure => simp [intOf]; omega
    · have hE2 : Hid (H9 = hxD m :: t) := Lib.hid (by rw [HE.out, hex_one (by omega)]; rfl)
      have hdg := run_dg m (by omega)
      have HP := Lib.hid (HT.out.put (hxD m) (by omega))
      obtain ⟨v0, x0⟩ := HT.out.cell (i := 64 - t.length) (by omega)
      have z0 := HT.out.frozen (64 - t.length)
      have HB2 := Lib.hid (HBl.out.setCell (p := ⟨w.heap.size, 64 - t.length, none⟩) (Nat.le_refl _) (.int .u8 ((hxD m).toNat : Int)))
      have hi1 : ((65 - t.length : Nat) : Int) - 1 = ((64 - t.length : Nat) : Int) := by omega
      have hi2 : 64 - t.length < 65 := by omega
      have hge : (m : Int) < 16 := by omega
      have hl : (hxD m :: t).length = t.length + 1 := rfl
      have hcv : Hid (∀ W : World, Tl W w.heap.size (hxD m :: t) → (convert 27 9 (.slice (some ⟨w.heap.size, 64 - t.length, none⟩) (t.length + 1) (t.length + 1))).run Tryz.prog W = .ok (.string (bs (hxD m :: t))) W) := Lib.hid (fun W hT => by
        have h := run_convert_bytes_back (P := Tryz.prog) W 27 9 5 ⟨w.heap.size, 64 - t.length, none⟩ (t.length + 1) (hxD m :: t) Tryz.underlying27 Tryz.underlying5 Tryz.underlying9 (fun j hj => by
          have := hT.at_ j hj
          rw [hl, show 65 - (t.length + 1) = 64 - t.length by omega] at this
          rw [addr_add, this, List.getD_eq_getElem?_getD, List.getElem?_eq_getElem hj]; rfl)
        exact h)
      have hCV := hcv.out _ HP.out
      have hcut : ∀ W, (Instr.sliceAt 236 (.pointer (some ⟨w.heap.size, 0, none⟩)) (some (.int .i64 ((64 - t.length : Nat) : Int))) none none).run Tryz.prog W = .ok (.slice (some ⟨w.heap.size, 64 - t.length, none⟩) (t.length + 1) (t.length + 1)) W := fun W => by
        rw [run_sliceAt_array_l W 236 ⟨w.heap.size, 0, none⟩ (by simp [Program.arrayLen, Program.elem, Tryz.underlying236]) .i64 ((64 - t.length : Nat) : Int) (by omega) (by rw [al90]; omega), al90]
        have e1 : 65 - (64 - t.length) = t.length + 1 := by omega
        have e2 : ¬ (65 = 64 - t.length) := by omega
        go_simp
      unfold dgS at hdg
      clear hcv
      generalize (65 - t.length : Nat) = i65 at hi1
      generalize hI : (64 - t.length : Nat) = i64 at hi1 hi2 HP x0 z0 HB2 hCV hcut
      clear hI hne HE
      go_wp2
      go_ret2
      exact ⟨by rw [hE2.out]; rfl, HB2.out⟩
theorem IFU16 (u : Nat) (hu : u < 18446744073709551616) (w : World) (hL : Lw w) :
    Calls Tryz.prog 121 #[.int .u64 u, .int .i64 16] w fun e w' => e = .returned (.string (bs (hexDigits u))) ∧ Below w.heap.size w w' := by
  have H := Lib.hid (FB16 u hu w hL)
  clear hL hu
  go_enter Tryz.func121, Tryz.ntmps121
  go_wp2_with (go_at_call 143; refine H.out.mono ?_; rintro e w' ⟨rfl, hb⟩; have HB := Lib.hid hb; clear hb)
  go_ret
  exact ⟨rfl, HB.out⟩
theorem FU16 (u : Nat) (hu : u < 18446744073709551616) (w : World) (hL : Lw w) :
    Calls Tryz.prog 91 #[.int .u64 u, .int .i64 16] w fun e w' => e = .returned (.string (bs (hexDigits u))) ∧ Below w.heap.size w w' := by
  have H := Lib.hid (IFU16 u hu w hL)
  clear hL hu
  go_enter Tryz.func91, Tryz.ntmps91
  go_wp2_with (go_at_call 121; refine H.out.mono ?_; rintro e w' ⟨rfl, hb⟩; have HB := Lib.hid hb; clear hb)
  go_ret
  exact ⟨rfl, HB.out⟩
/-- conv.Hex -/
theorem Hex_ok (u : Nat) (hu : u < 18446744073709551616) (w : World) (hL : Lw w) :
    Calls Tryz.prog 139 #[.int .u64 u] w fun e w' => e = .returned (.string (bs (48 :: 120 :: hexDigits u))) ∧ Below w.heap.size w w' := by
  have H := Lib.hid (FU16 u hu w hL)
  have hl := hex_len 15 u (by omega)
  have f : Op.stringOp .add ⟨#[48, 120]⟩ (bs (hexDigits u)) = pure (.string (bs (48 :: 120 :: hexDigits u))) := cat_bs [48, 120] _ (by simp; omega)
  generalize bs (48 :: 120 :: hexDigits u) = X2 at f
  generalize bs (hexDigits u) = X at H f
  clear hL hu hl
  go_enter Tryz.func139, Tryz.ntmps139
  go_wp2_with (go_at_call 91; refine H.out.mono ?_; rintro e w' ⟨rfl, hb⟩; have HB := Lib.hid hb; clear hb)
  go_ret
  exact ⟨rfl, HB.out⟩
end Go.Proofs.YtggfaalodojjkaaGreatDoor
