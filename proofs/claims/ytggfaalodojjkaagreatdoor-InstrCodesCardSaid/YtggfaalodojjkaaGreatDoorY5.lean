/-
  Texts of YtggfaalodojjkaaGreatDoorY5.
-/
import Derived.Test.YtggfaalodojjkaaGreatDoorY2
import Derived.Lib.ConvBytes
import Derived.Laws.EntriesVeiled
namespace Go.Proofs.YtggfaalodojjkaaGreatDoor
open Go.RowKit Go.ChangeShapes Go.WideShapes Go.ChangeAt
set_option linter.unusedVariables false
set_option linter.unusedSimpArgs false
def dgS : ByteArray := ⟨#[48, 49, 50, 51, 52, 53, 54, 55, 56, 57, 97, 98, 99, 100, 101, 102, 103, 104, 105, 106, 107, 108, 109, 110, 111, 112, 113, 114, 115, 116, 117, 118, 119, 120, 121, 122]⟩
/-- a row of 65 cells at whose end a text stands -/
structure Tl (w : World) (b : Nat) (t : List UInt8) : Prop where
  ex : ∃ cs : Array Value, Blk w b 236 cs ∧ cs.size = 65
  len : t.length ≤ 65
  at_ : ∀ j, j < t.length → w.cell? ⟨b, 65 - t.length + j, none⟩ = some (.int .u8 ((t.getD j 0).toNat : Int))
theorem Tl.cell {w : World} {b : Nat} {t : List UInt8} (h : Tl w b t) {i : Nat} (hi : i < 65) : ∃ v, w.cell? ⟨b, i, none⟩ = some v := by
  obtain ⟨cs, hb, hs⟩ := h.ex
  exact ⟨_, by rw [hb.cell i]; exact Array.getElem?_eq_getElem (by omega)⟩
theorem Tl.frozen {w : World} {b : Nat} {t : List UInt8} (h : Tl w b t) (i : Nat) : w.frozen? ⟨b, i, none⟩ = false := by
  obtain ⟨cs, hb, hs⟩ := h.ex
  exact hb.frozen i
theorem Tl.put {w : World} {b : Nat} {t : List UInt8} (h : Tl w b t) (c : UInt8) (hl : t.length < 65) : Tl (w.setCell ⟨b, 64 - t.length, none⟩ (.int .u8 (c.toNat : Int))) b (c :: t) := by
  obtain ⟨cs, hb, hs⟩ := h.ex
  obtain ⟨v, hv⟩ := h.cell (i := 64 - t.length) (by omega)
  refine ⟨⟨_, hb.set_ (64 - t.length) _, by simp [hs]⟩, by simp; omega, fun j hj => ?_⟩
  rw [List.length_cons] at hj ⊢
  rcases j with _ | j
  · rw [show 65 - (t.length + 1) + 0 = 64 - t.length by omega]
    exact World.cell?_setCell_same _ _ _ hv
  · rw [show 65 - (t.length + 1) + (j + 1) = 65 - t.length + j by omega]
    rw [World.cell?_setCell_other _ _ _ _ (by intro e; injection e with _ e; omega)]
    exact h.at_ j (by omega)
theorem run_dg (r : Nat) (h : r < 16) (W : World) : (Instr.index 9 (.string dgS) (.int .u64 (r : Int))).run Tryz.prog W = .ok (.int .u8 ((hxD r).toNat : Int)) W := by
  rcases (by omega : r = 0 ∨ r = 1 ∨ r = 2 ∨ r = 3 ∨ r = 4 ∨ r = 5 ∨ r = 6 ∨ r = 7 ∨ r = 8 ∨ r = 9 ∨ r = 10 ∨ r = 11 ∨ r = 12 ∨ r = 13 ∨ r = 14 ∨ r = 15) with rfl | rfl | rfl | rfl | rfl | rfl | rfl | rfl | rfl | rfl | rfl | rfl | rfl | rfl | rfl | rfl
  all_goals kernel_rfl
theorem hex_step (u : Nat) (t : List UInt8) (h : 16 ≤ u) : hexDigits u ++ t = hexDigits (u / 16) ++ (hxD (u % 16) :: t) := by
  rw [hexDigits, dif_neg (by omega), List.append_assoc]; rfl
theorem al90 : Tryz.prog.arrayLen 236 = 65 := by kernel_rfl
theorem addr_add (b off j : Nat) : (⟨b, off, none⟩ : Addr).add j = ⟨b, off + j, none⟩ := by cases j <;> rfl
theorem TZ16 (w : World) (h : w.cell? ⟨10, 15, none⟩ = some (.int .u8 4)) :
    Calls Tryz.prog 175 #[.int .u64 16] w fun e w' => e = .returned (.int .i64 4) ∧ w = w' := by
  have hn : IntKind.u64.wrap (-16) = 18446744073709551600 := by decide
  have e1 : bits BinOp.and IntKind.u64 16 18446744073709551600 = 16 := by decide
  have e2 : IntKind.u64.wrap (16 * 285870213051353865) / 288230376151711744 = 15 := by decide
  go_enter Tryz.func175, Tryz.ntmps175
  go_wp2
  go_ret
  exact ⟨rfl, rfl⟩
set_option maxHeartbeats 4000000 in
set_option maxRecDepth 100000 in
theorem FB16 (u : Nat) (hu : u < 18446744073709551616) (w : World) (hL : Lw w) :
    Calls Tryz.prog 143 #[.slice none 0 0, .int .u64 u, .int .i64 16, .bool false, .bool false] w fun e w' => e = .returned (.tuple #[.slice none 0 0, .string (bs (hexDigits u))]) ∧ Below w.heap.size w w' := by
  have HU := Lib.hid hu
  have HLn := Lib.hid (hex_len 15 u (by omega))
  have TZ : Hid (∀ W : World, Below w.heap.size w W → Calls Tryz.prog 175 #[.int .u64 16] W fun e w' => e = .returned (.int .i64 4) ∧ W = w') := Lib.hid (fun W hb => by
    exact TZ16 W (hL.below hb).db.2)
  clear hL hu
  have hb16 : bits BinOp.and IntKind.i64 16 15 = 0 := by decide
  have hZ : Tl (w.alloc (.cells Tryz.zeroCells236 236)) w.heap.size [] := ⟨⟨_, Blk.new w 236 _, by kernel_rfl⟩, by decide, fun j hj => by simp at hj⟩
  have HZ := Lib.hid hZ
  have HB0 : Hid (Below w.heap.size w (w.alloc (.cells Tryz.zeroCells236 236))) := Lib.hid ((Below.refl _ w).alloc (Nat.le_refl _) _)
  clear hZ
  generalize hH : hexDigits u = H9 at HLn
  have HH := Lib.hid hH
  clear hH
  go_enter Tryz.func143, Tryz.ntmps143
  go_wp2_with (first
    | (go_at_call 175; refine (TZ.out _ ((Below.refl _ w).alloc (Nat.le_refl _) _)).mono ?_; rintro e w1 ⟨rfl, rfl⟩)
    | go_in)
  go_loopw [1, 13] (fun v1 v13 wr => ∃ (m : Nat) (t : List UInt8), v1 = .int .u64 m ∧ v13 = .int .i64 ((65 - t.length : Nat) : Int) ∧ m < 18446744073709551616 ∧ Hid (H9 = hexDigits m ++ t) ∧ t.length < 16 ∧ Hid (Tl wr w.heap.size t) ∧ Hid (Below w.heap.size w wr)) (fun v1 _ _ => (intOf v1).toNat)
  case atStart => exact ⟨u, [], rfl, rfl, HU.out, Lib.hid (by rw [← HH.out]; simp), by decide, HZ, HB0⟩
  case round =>
    clear HZ HB0 HH HU
    obtain ⟨m, t, rfl, rfl, hm, HE, ht, HT, HBl⟩ := hrel
    have hne : (hexDigits m).length + t.length ≤ 16 := by
      have h1 := HLn.out
      rw [HE.out, List.length_append] at h1; exact h1
    by_cases h16 : 16 ≤ m
    · have HE2 := Lib.hid (HE.out.trans (hex_step m t h16))
      have hpos : 0 < (hexDigits (m / 16)).length := List.length_pos_iff.2 (hex_facts (m / 16)).2.2.1
      have ht15 : t.length < 15 := by
        have h1 := HLn.out
        rw [HE2.out, List.length_append, List.length_cons] at h1; omega
      have hand : bits BinOp.and IntKind.u64 (m : Int) 15 = ((m % 16 : Nat) : Int) := by
        have := u64_and_nat m 15 hm (by decide)
        rw [show m &&& 15 = m % 16 from Nat.and_two_pow_sub_one_eq_mod m 4] at this
        exact this
      have hr : m % 16 < 16 := Nat.mod_lt _ (by decide)
      have hdg := run_dg (m % 16) hr
      have HP := Lib.hid (HT.out.put (hxD (m % 16)) (by omega))
      obtain ⟨v0, x0⟩ := HT.out.cell (i := 64 - t.length) (by omega)
      have z0 := HT.out.frozen (64 - t.length)
      have HB2 := Lib.hid (HBl.out.setCell (p := ⟨w.heap.size, 64 - t.length, none⟩) (Nat.le_refl _) (.int .u8 ((hxD (m % 16)).toNat : Int)))
      have hi1 : ((65 - t.length : Nat) : Int) - 1 = ((64 - t.length : Nat) : Int) := by omega
      have hi2 : 64 - t.length < 65 := by omega
      have hsh : Op.shift .shr .u64 (m : Int) .u64 4 = pure (.int .u64 ((m / 16 : Nat) : Int)) := by
        rw [shift_shr .u64 .u64 (m : Int) 4 (by decide) (by decide)]
        rfl
      have hge : (16 : Int) ≤ (m : Int) := by omega
      unfold dgS at hdg
      generalize (65 - t.length : Nat) = i65 at hi1
      generalize hI : (64 - t.length : Nat) = i64 at hi1 hi2 HP x0 z0 HB2
      have HI := Lib.hid hI
      clear hI hne HE hpos
      generalize hR : m % 16 = r at hand hdg hr HP HB2 HE2
      clear hR
      go_wp2
      go_roundw
      case rel => exact ⟨m / 16, hxD r :: t, rfl, by rw [← HI.out, List.length_cons]; congr 2; omega, by omega, HE2, by rw [List.length_cons]; omega, HP, HB2⟩
      case measure => simp [intOf]; omega
    · have hE2 : Hid (H9 = hxD m :: t) := Lib.hid (by rw [HE.out, hex_one (by omega)]; rfl)
      have hdg := run_dg m (by omega)
      have HP := Lib.hid (HT.out.put (hxD m) (by omega))
      obtain ⟨v0, x0⟩ := HT.out.cell (i := 64 - t.length) (by omega)
      have z0 := HT.out.frozen (64 - t.length)
      have HB2 := Lib.hid (HBl.out.setCell (p := ⟨w.heap.size, 64 - t.length, none⟩) (Nat.le_refl _) (.int .u8 ((hxD m).toNat : Int)))
      have hi1 : ((65 - t.length : Nat) : Int) - 1 = ((64 - t.length : Nat) : Int) := by omega
      have hi2 : 64 - t.length < 65 := by omega
      have hge : (m : Int) < 16 := by omega
      have hl : (hxD m :: t).length = t.length + 1 := rfl
      have hcv : Hid (∀ W : World, Tl W w.heap.size (hxD m :: t) → (convert 27 9 (.slice (some ⟨w.heap.size, 64 - t.length, none⟩) (t.length + 1) (t.length + 1))).run Tryz.prog W = .ok (.string (bs (hxD m :: t))) W) := Lib.hid (fun W hT => by
        have h := run_convert_bytes_back (P := Tryz.prog) W 27 9 5 ⟨w.heap.size, 64 - t.length, none⟩ (t.length + 1) (hxD m :: t) Tryz.underlying27 Tryz.underlying5 Tryz.underlying9 (fun j hj => by
          have := hT.at_ j hj
          rw [hl, show 65 - (t.length + 1) = 64 - t.length by omega] at this
          rw [addr_add, this, List.getD_eq_getElem?_getD, List.getElem?_eq_getElem hj]; rfl)
        exact h)
      have hCV := hcv.out _ HP.out
      have hcut : ∀ W, (Instr.sliceAt 236 (.pointer (some ⟨w.heap.size, 0, none⟩)) (some (.int .i64 ((64 - t.length : Nat) : Int))) none none).run Tryz.prog W = .ok (.slice (some ⟨w.heap.size, 64 - t.length, none⟩) (t.length + 1) (t.length + 1)) W := fun W => by
        rw [run_sliceAt_array_l W 236 ⟨w.heap.size, 0, none⟩ (by simp [Program.arrayLen, Program.elem, Tryz.underlying236]) .i64 ((64 - t.length : Nat) : Int) (by omega) (by rw [al90]; omega), al90]
        have e1 : 65 - (64 - t.length) = t.length + 1 := by omega
        have e2 : ¬ (65 = 64 - t.length) := by omega
        go_simp
      unfold dgS at hdg
      clear hcv
      generalize (65 - t.length : Nat) = i65 at hi1
      generalize hI : (64 - t.length : Nat) = i64 at hi1 hi2 HP x0 z0 HB2 hCV hcut
      clear hI hne HE
      go_wp2
      go_ret2
      exact ⟨by rw [hE2.out]; rfl, HB2.out⟩
theorem IFU16 (u : Nat) (hu : u < 18446744073709551616) (w : World) (hL : Lw w) :
    Calls Tryz.prog 121 #[.int .u64 u, .int .i64 16] w fun e w' => e = .returned (.string (bs (hexDigits u))) ∧ Below w.heap.size w w' := by
  have H := Lib.hid (FB16 u hu w hL)
  clear hL hu
  go_enter Tryz.func121, Tryz.ntmps121
  go_wp2_with (go_at_call 143; refine H.out.mono ?_; rintro e w' ⟨rfl, hb⟩; have HB := Lib.hid hb; clear hb)
  go_ret
  exact ⟨rfl, HB.out⟩
theorem FU16 (u : Nat) (hu : u < 18446744073709551616) (w : World) (hL : Lw w) :
    Calls Tryz.prog 91 #[.int .u64 u, .int .i64 16] w fun e w' => e = .returned (.string (bs (hexDigits u))) ∧ Below w.heap.size w w' := by
  have H := Lib.hid (IFU16 u hu w hL)
  clear hL hu
  go_enter Tryz.func91, Tryz.ntmps91
  go_wp2_with (go_at_call 121; refine H.out.mono ?_; rintro e w' ⟨rfl, hb⟩; have HB := Lib.hid hb; clear hb)
  go_ret
  exact ⟨rfl, HB.out⟩
/-- conv.Hex -/
theorem Hex_ok (u : Nat) (hu : u < 18446744073709551616) (w : World) (hL : Lw w) :
    Calls Tryz.prog 139 #[.int .u64 u] w fun e w' => e = .returned (.string (bs (48 :: 120 :: hexDigits u))) ∧ Below w.heap.size w w' := by
  have H := Lib.hid (FU16 u hu w hL)
  have hl := hex_len 15 u (by omega)
  have f : Op.stringOp .add ⟨#[48, 120]⟩ (bs (hexDigits u)) = pure (.string (bs (48 :: 120 :: hexDigits u))) := cat_bs [48, 120] _ (by simp; omega)
  generalize bs (48 :: 120 :: hexDigits u) = X2 at f
  generalize bs (hexDigits u) = X at H f
  clear hL hu hl
  go_enter Tryz.func139, Tryz.ntmps139
  go_wp2_with (go_at_call 91; refine H.out.mono ?_; rintro e w' ⟨rfl, hb⟩; have HB := Lib.hid hb; clear hb)
  go_ret
  exact ⟨rfl, HB.out⟩
end Go.Proofs.YtggfaalodojjkaaGreatDoor
namespace Go.Proofs.YtggfaalodojjkaaGreatDoor
open Go.RowKit Go.ChangeShapes Go.WideShapes Go.ChangeAt
set_option linter.unusedVariables false
set_option linter.unusedSimpArgs false
def IP (o : Option Nat) (w : World) (e : Ending) (w' : World) : Prop :=
  ((∃ v : Nat, o = some v ∧ e = .returned (.tuple #[.int .u64 (v : Int), .nilIface])) ∨ (o = none ∧ ∃ (x k : Int), (k = 1 ∨ k = 2) ∧ e = .returned (.tuple #[.int .u64 x, .iface 247 (.int .i64 k)]))) ∧ Below w.heap.size w w'
theorem u8_or32 (c : Nat) (h : c < 256) : bits BinOp.or IntKind.u8 (c : Int) 32 = ((c ||| 32 : Nat) : Int) := by
  have : ∀ k : Fin 256, bits BinOp.or IntKind.u8 (k.val : Int) 32 = ((k.val ||| 32 : Nat) : Int) := by decide +kernel
  exact this ⟨c, h⟩
theorem or32_facts (c : Nat) (h : c < 256) : c ||| 32 < 256 ∧ (c < 48 → c ||| 32 < 97) ∧ (c = 95 → c ||| 32 = 127) := by
  have : ∀ k : Fin 256, k.val ||| 32 < 256 ∧ (k.val < 48 → k.val ||| 32 < 97) ∧ (k.val = 95 → k.val ||| 32 = 127) := by decide +kernel
  exact this ⟨c, h⟩
theorem drop_consB (s : List UInt8) (k : Nat) (h : k < s.length) : s.drop k = s.getD k 0 :: s.drop (k + 1) := by
  rw [List.drop_eq_getElem_cons h, List.getD_eq_getElem?_getD, List.getElem?_eq_getElem h]; rfl
theorem bs_empty {s : List UInt8} (h : s ≠ []) : (bs s).toList.isEmpty = false := by
  rw [bs_list]
  cases s with
  | nil => exact absurd rfl h
  | cons a l => rfl
theorem Lib_below (w : World) (s : ByteArray) : Below w.heap.size w (Lib.bytesWorld w 5 s) := Lib.bytesWorld_below w 5 s
set_option maxHeartbeats 8000000 in
set_option maxRecDepth 100000 in
theorem IPU16_32 (s : List UInt8) (hs : s.length ≤ 100) (hne : s ≠ []) (w : World) :
    Calls Tryz.prog 157 #[.string (bs s), .int .i64 16, .int .i64 32] w (IP (puH 4294967295 s) w) := by
  have hemp := bs_empty hne
  have hcv := Lib.run_convert_string_bytes (P := Tryz.prog) w 9 27 5 (bs s) (u := .string) Tryz.underlying9 Tryz.underlying27 Tryz.underlying5
  have hB : ∀ j, j < s.length → (Lib.bytesWorld w 5 (bs s)).cell? ⟨w.heap.size, j, none⟩ = some (.int .u8 ((s.getD j 0).toNat : Int)) := fun j hj => by
    have := Lib.bytesWorld_cell w 5 (bs s) j (by rw [bs_size]; exact hj)
    rw [this]; simp [bs]
  have HBl := Lib.hid (Lib_below w (bs s))
  rw [bs_size] at hcv
  obtain ⟨tot, htot⟩ : ∃ tot, tot = puH 4294967295 s := ⟨_, rfl⟩
  rw [← htot]
  have HT : Hid (tot = px 4294967295 0 (s.drop 0)) := Lib.hid (by rw [htot, puH, if_neg hne]; rfl)
  generalize Lib.bytesWorld w 5 (bs s) = W1 at hcv hB HBl
  generalize grownCap w s.length 0 5 = cap at hcv
  have HBY := Lib.hid hB
  have HN := Lib.hid hs
  have hmv : IntKind.u64.wrap (IntKind.u64.wrap 4294967296 - 1) = 4294967295 := by
    rw [IntKind.wrap_u64, IntKind.wrap_u64]
    decide
  obtain ⟨n, hn⟩ : ∃ n, n = s.length := ⟨_, rfl⟩
  rw [← hn] at hcv hs
  have HNN := Lib.hid hn
  generalize bs s = S at hemp hcv
  clear hne htot hB hn
  go_enter Tryz.func157, Tryz.ntmps157
  go_wp2
  go_loop [12, 13, 101] (fun vu vn vi => ∃ (k v : Nat) (a : Int), vu = .bool false ∧ vn = .int .u64 a ∧ vi = .int .i64 k ∧ k ≤ n ∧ 0 ≤ a ∧ a ≤ 4294967295 ∧ Hid (a = (v : Int)) ∧ Hid (tot = px 4294967295 v (s.drop k))) (fun _ _ vi => n - (intOf vi).toNat)
  case atStart => exact ⟨0, 0, 0, rfl, rfl, rfl, by omega, by omega, by omega, Lib.hid rfl, HT⟩
  case round =>
    clear HT hemp hcv
    obtain ⟨k, v, a, rfl, rfl, rfl, hk, ha0, ha1, HA, HT⟩ := hrel
    by_cases hlt : k < n
    · have hlt2 : k < s.length := by have := HNN.out; omega
      have x0 := HBY.out k hlt2
      have HT2 := Lib.hid (HT.out.trans (by rw [drop_consB s k hlt2, px]))
      have hc : (s.getD k 0).toNat < 256 := (s.getD k 0).toNat_lt
      have HDU : Hid (du (s.getD k 0) = if 48 ≤ (s.getD k 0).toNat ∧ (s.getD k 0).toNat ≤ 57 then (s.getD k 0).toNat - 48 else if 97 ≤ ((s.getD k 0).toNat ||| 32) ∧ ((s.getD k 0).toNat ||| 32) ≤ 122 then ((s.getD k 0).toNat ||| 32) - 87 else 99) := Lib.hid rfl
      obtain ⟨hl1, hl2, hl3⟩ := or32_facts _ hc
      have hor := u8_or32 _ hc
      clear HT
      generalize (s.getD k 0).toNat = c at x0 hc HDU hl1 hl2 hl3 hor
      generalize du (s.getD k 0) = d at HDU HT2
      have LO : Hid (∀ W : World, Calls Tryz.prog 168 #[.int .u8 c] W fun e w' => e = .returned (.int .u8 ((c ||| 32 : Nat) : Int)) ∧ W = w') := Lib.hid (fun W => by
        refine (Tryz.internal_strconv_lower (c : Int) W).mono ?_
        rintro e w' ⟨rfl, rfl⟩
        exact ⟨by rw [hor], rfl⟩)
      clear hor
      generalize c ||| 32 = l at HDU hl1 hl2 hl3 LO
      have EN : Hid (∀ (x : Int), tot = none → IP tot w (.returned (.tuple #[.int .u64 x, .iface 247 (.int .i64 2)])) W1) := Lib.hid (fun x e => ⟨.inr ⟨e, x, 2, .inr rfl, rfl⟩, HBl.out⟩)
      have ER : Hid (∀ (x : Int), tot = none → IP tot w (.returned (.tuple #[.int .u64 x, .iface 247 (.int .i64 1)])) W1) := Lib.hid (fun x e => ⟨.inr ⟨e, x, 1, .inl rfl, rfl⟩, HBl.out⟩)
      have key : (48 ≤ c ∧ c ≤ 57 ∧ Hid (d = c - 48)) ∨ (¬ (48 ≤ c ∧ c ≤ 57) ∧ 97 ≤ l ∧ l ≤ 122 ∧ Hid (d = l - 87)) ∨ (¬ (48 ≤ c ∧ c ≤ 57) ∧ ¬ (97 ≤ l ∧ l ≤ 122) ∧ Hid (tot = none)) := by
        by_cases q1 : 48 ≤ c ∧ c ≤ 57
        · exact .inl ⟨q1.1, q1.2, Lib.hid (by rw [HDU.out, if_pos q1])⟩
        · by_cases q2 : 97 ≤ l ∧ l ≤ 122
          · exact .inr (.inl ⟨q1, q2.1, q2.2, Lib.hid (by rw [HDU.out, if_neg q1, if_pos q2])⟩)
          · exact .inr (.inr ⟨q1, q2, Lib.hid (by rw [HT2.out, if_pos (.inl (by rw [HDU.out, if_neg q1, if_neg q2]; decide))])⟩)
      clear HDU hl2
      rcases key with ⟨q1, q2, HD⟩ | ⟨q0, q1, q2, HD⟩ | ⟨q0, q1, HN9⟩
      · have hd16 : Hid (d < 16) := Lib.hid (by have := HD.out; omega)
        clear hl3
        by_cases g1 : 1152921504606846976 ≤ a
        · have HN9 : Hid (tot = none) := Lib.hid (by rw [HT2.out, if_pos (.inr (.inl (by have := HA.out; omega)))])
          clear HT2
          go_wp2_with (go_at_call 168; refine (LO.out _).mono ?_; rintro e w' ⟨rfl, rfl⟩)
          all_goals (go_ret2; exact ER.out _ HN9.out)
        · obtain ⟨b, hb⟩ : ∃ b : Int, 16 * a + ((c : Int) - 48) = b := ⟨_, rfl⟩
          have hb1 : IntKind.u64.wrap (a * 16) = a * 16 := by rw [IntKind.wrap_u64]; omega
          have hb2 : a * 16 + ((c : Int) - 48) = b := by omega
          have hb0 : 0 ≤ b ∧ b < 18446744073709551616 := by omega
          have hb4 : ¬ b < a * 16 := by omega
          obtain ⟨p, hp⟩ : ∃ p : Int, a * 16 = p := ⟨_, rfl⟩
          rw [hp] at hb1 hb2 hb4
          have hp0 : 0 ≤ p ∧ p < 18446744073709551616 := by omega
          have HBB : Hid (b = ((16 * v + d : Nat) : Int)) := Lib.hid (by have := HA.out; have := HD.out; omega)
          clear hb
          by_cases g2 : 4294967295 < b
          · have HN9 : Hid (tot = none) := Lib.hid (by rw [HT2.out, if_pos (.inr (.inr (by have := HBB.out; omega)))])
            clear HT2
            go_wp2_with (go_at_call 168; refine (LO.out _).mono ?_; rintro e w' ⟨rfl, rfl⟩)
            all_goals (go_ret2; exact ER.out _ HN9.out)
          · have HT3 : Hid (tot = px 4294967295 (16 * v + d) (s.drop (k + 1))) := Lib.hid (by rw [HT2.out, if_neg (by have := HBB.out; have := HA.out; have := HD.out; omega)])
            clear HT2
            go_wp2_with (go_at_call 168; refine (LO.out _).mono ?_; rintro e w' ⟨rfl, rfl⟩)
            go_round
            case rel => exact ⟨k + 1, 16 * v + d, b, rfl, by go_num, by go_num, by omega, by omega, by omega, HBB, HT3⟩
            case measure => simp [intOf]; omega
      · have hc95 : ¬ (c : Int) = 95 := by omega
        have e95 : ((c : Int) == 95) = false := by simp; omega
        clear hl3
        by_cases g0 : 102 < l
        · have HN9 : Hid (tot = none) := Lib.hid (by rw [HT2.out, if_pos (.inl (by have := HD.out; omega))])
          clear HT2
          rcases (by omega : c < 48 ∨ 57 < c) with q0 | q0
          all_goals
            go_wp2_with (go_at_call 168; refine (LO.out _).mono ?_; rintro e w' ⟨rfl, rfl⟩)
            go_ret2
            exact EN.out _ HN9.out
        · rcases (by omega : c < 48 ∨ 57 < c) with q0 | q0
          all_goals
            by_cases g1 : 1152921504606846976 ≤ a
            · have HN9 : Hid (tot = none) := Lib.hid (by rw [HT2.out, if_pos (.inr (.inl (by have := HA.out; omega)))])
              clear HT2
              go_wp2_with (go_at_call 168; refine (LO.out _).mono ?_; rintro e w' ⟨rfl, rfl⟩)
              all_goals (go_ret2; exact ER.out _ HN9.out)
            · obtain ⟨b, hb⟩ : ∃ b : Int, 16 * a + ((l : Int) - 87) = b := ⟨_, rfl⟩
              have hb1 : IntKind.u64.wrap (a * 16) = a * 16 := by rw [IntKind.wrap_u64]; omega
              have hb2 : a * 16 + ((l : Int) - 87) = b := by omega
              have hb0 : 0 ≤ b ∧ b < 18446744073709551616 := by omega
              have hb4 : ¬ b < a * 16 := by omega
              obtain ⟨p, hp⟩ : ∃ p : Int, a * 16 = p := ⟨_, rfl⟩
              rw [hp] at hb1 hb2 hb4
              have hp0 : 0 ≤ p ∧ p < 18446744073709551616 := by omega
              have HBB : Hid (b = ((16 * v + d : Nat) : Int)) := Lib.hid (by have := HA.out; have := HD.out; omega)
              clear hb
              by_cases g2 : 4294967295 < b
              · have HN9 : Hid (tot = none) := Lib.hid (by rw [HT2.out, if_pos (.inr (.inr (by have := HBB.out; omega)))])
                clear HT2
                go_wp2_with (go_at_call 168; refine (LO.out _).mono ?_; rintro e w' ⟨rfl, rfl⟩)
                all_goals (go_ret2; exact ER.out _ HN9.out)
              · have HT3 : Hid (tot = px 4294967295 (16 * v + d) (s.drop (k + 1))) := Lib.hid (by rw [HT2.out, if_neg (by have := HBB.out; have := HA.out; have := HD.out; omega)])
                clear HT2
                go_wp2_with (go_at_call 168; refine (LO.out _).mono ?_; rintro e w' ⟨rfl, rfl⟩)
                go_round
                case rel => exact ⟨k + 1, 16 * v + d, b, rfl, by go_num, by go_num, by omega, by omega, by omega, HBB, HT3⟩
                case measure => simp [intOf]; omega
      · clear HT2
        by_cases h95 : c = 95
        · subst h95
          have L95 : Hid (∀ W : World, Calls Tryz.prog 168 #[.int .u8 95] W fun e w' => e = .returned (.int .u8 127) ∧ W = w') := Lib.hid (fun W => by
            refine (Tryz.internal_strconv_lower 95 W).mono ?_
            rintro e w' ⟨rfl, rfl⟩
            exact ⟨by rw [show bits BinOp.or IntKind.u8 95 32 = 127 by decide], rfl⟩)
          go_wp2_with (go_at_call 168; refine (L95.out _).mono ?_; rintro e w' ⟨rfl, rfl⟩)
          go_ret2
          exact EN.out _ HN9.out
        · have hc95 : ¬ (c : Int) = 95 := by omega
          have e95 : ((c : Int) == 95) = false := by simp; omega
          clear hl3
          rcases (by omega : c < 48 ∨ 57 < c) with q0 | q0 <;> rcases (by omega : l < 97 ∨ (97 ≤ l ∧ 122 < l)) with q1 | ⟨q1, q2⟩
          all_goals
            go_wp2_with (go_at_call 168; refine (LO.out _).mono ?_; rintro e w' ⟨rfl, rfl⟩)
            go_ret2
            exact EN.out _ HN9.out
    · obtain rfl : n = k := by omega
      have HR : Hid (tot = some v) := Lib.hid (by rw [HT.out, List.drop_of_length_le (by have := HNN.out; omega)]; rfl)
      clear HT
      go_wp2
      go_ret2
      exact ⟨.inl ⟨v, HR.out, by rw [HA.out]; rfl⟩, HBl.out⟩
set_option maxHeartbeats 8000000 in
set_option maxRecDepth 100000 in
theorem IPU16_64 (s : List UInt8) (hs : s.length ≤ 100) (hne : s ≠ []) (w : World) :
    Calls Tryz.prog 157 #[.string (bs s), .int .i64 16, .int .i64 64] w (IP (puH 18446744073709551615 s) w) := by
  have hemp := bs_empty hne
  have hcv := Lib.run_convert_string_bytes (P := Tryz.prog) w 9 27 5 (bs s) (u := .string) Tryz.underlying9 Tryz.underlying27 Tryz.underlying5
  have hB : ∀ j, j < s.length → (Lib.bytesWorld w 5 (bs s)).cell? ⟨w.heap.size, j, none⟩ = some (.int .u8 ((s.getD j 0).toNat : Int)) := fun j hj => by
    have := Lib.bytesWorld_cell w 5 (bs s) j (by rw [bs_size]; exact hj)
    rw [this]; simp [bs]
  have HBl := Lib.hid (Lib_below w (bs s))
  rw [bs_size] at hcv
  obtain ⟨tot, htot⟩ : ∃ tot, tot = puH 18446744073709551615 s := ⟨_, rfl⟩
  rw [← htot]
  have HT : Hid (tot = px 18446744073709551615 0 (s.drop 0)) := Lib.hid (by rw [htot, puH, if_neg hne]; rfl)
  generalize Lib.bytesWorld w 5 (bs s) = W1 at hcv hB HBl
  generalize grownCap w s.length 0 5 = cap at hcv
  have HBY := Lib.hid hB
  have HN := Lib.hid hs
  have hmv : IntKind.u64.wrap (IntKind.u64.wrap 18446744073709551616 - 1) = 18446744073709551615 := by
    rw [IntKind.wrap_u64, IntKind.wrap_u64]
    decide
  obtain ⟨n, hn⟩ : ∃ n, n = s.length := ⟨_, rfl⟩
  rw [← hn] at hcv hs
  have HNN := Lib.hid hn
  generalize bs s = S at hemp hcv
  clear hne htot hB hn
  go_enter Tryz.func157, Tryz.ntmps157
  go_wp2
  go_loop [12, 13, 101] (fun vu vn vi => ∃ (k v : Nat) (a : Int), vu = .bool false ∧ vn = .int .u64 a ∧ vi = .int .i64 k ∧ k ≤ n ∧ 0 ≤ a ∧ a ≤ 18446744073709551615 ∧ Hid (a = (v : Int)) ∧ Hid (tot = px 18446744073709551615 v (s.drop k))) (fun _ _ vi => n - (intOf vi).toNat)
  case atStart => exact ⟨0, 0, 0, rfl, rfl, rfl, by omega, by omega, by omega, Lib.hid rfl, HT⟩
  case round =>
    clear HT hemp hcv
    obtain ⟨k, v, a, rfl, rfl, rfl, hk, ha0, ha1, HA, HT⟩ := hrel
    by_cases hlt : k < n
    · have hlt2 : k < s.length := by have := HNN.out; omega
      have x0 := HBY.out k hlt2
      have HT2 := Lib.hid (HT.out.trans (by rw [drop_consB s k hlt2, px]))
      have hc : (s.getD k 0).toNat < 256 := (s.getD k 0).toNat_lt
      have HDU : Hid (du (s.getD k 0) = if 48 ≤ (s.getD k 0).toNat ∧ (s.getD k 0).toNat ≤ 57 then (s.getD k 0).toNat - 48 else if 97 ≤ ((s.getD k 0).toNat ||| 32) ∧ ((s.getD k 0).toNat ||| 32) ≤ 122 then ((s.getD k 0).toNat ||| 32) - 87 else 99) := Lib.hid rfl
      obtain ⟨hl1, hl2, hl3⟩ := or32_facts _ hc
      have hor := u8_or32 _ hc
      clear HT
      generalize (s.getD k 0).toNat = c at x0 hc HDU hl1 hl2 hl3 hor
      generalize du (s.getD k 0) = d at HDU HT2
      have LO : Hid (∀ W : World, Calls Tryz.prog 168 #[.int .u8 c] W fun e w' => e = .returned (.int .u8 ((c ||| 32 : Nat) : Int)) ∧ W = w') := Lib.hid (fun W => by
        refine (Tryz.internal_strconv_lower (c : Int) W).mono ?_
        rintro e w' ⟨rfl, rfl⟩
        exact ⟨by rw [hor], rfl⟩)
      clear hor
      generalize c ||| 32 = l at HDU hl1 hl2 hl3 LO
      have EN : Hid (∀ (x : Int), tot = none → IP tot w (.returned (.tuple #[.int .u64 x, .iface 247 (.int .i64 2)])) W1) := Lib.hid (fun x e => ⟨.inr ⟨e, x, 2, .inr rfl, rfl⟩, HBl.out⟩)
      have ER : Hid (∀ (x : Int), tot = none → IP tot w (.returned (.tuple #[.int .u64 x, .iface 247 (.int .i64 1)])) W1) := Lib.hid (fun x e => ⟨.inr ⟨e, x, 1, .inl rfl, rfl⟩, HBl.out⟩)
      have key : (48 ≤ c ∧ c ≤ 57 ∧ Hid (d = c - 48)) ∨ (¬ (48 ≤ c ∧ c ≤ 57) ∧ 97 ≤ l ∧ l ≤ 122 ∧ Hid (d = l - 87)) ∨ (¬ (48 ≤ c ∧ c ≤ 57) ∧ ¬ (97 ≤ l ∧ l ≤ 122) ∧ Hid (tot = none)) := by
        by_cases q1 : 48 ≤ c ∧ c ≤ 57
        · exact .inl ⟨q1.1, q1.2, Lib.hid (by rw [HDU.out, if_pos q1])⟩
        · by_cases q2 : 97 ≤ l ∧ l ≤ 122
          · exact .inr (.inl ⟨q1, q2.1, q2.2, Lib.hid (by rw [HDU.out, if_neg q1, if_pos q2])⟩)
          · exact .inr (.inr ⟨q1, q2, Lib.hid (by rw [HT2.out, if_pos (.inl (by rw [HDU.out, if_neg q1, if_neg q2]; decide))])⟩)
      clear HDU hl2
      rcases key with ⟨q1, q2, HD⟩ | ⟨q0, q1, q2, HD⟩ | ⟨q0, q1, HN9⟩
      · have hd16 : Hid (d < 16) := Lib.hid (by have := HD.out; omega)
        clear hl3
        by_cases g1 : 1152921504606846976 ≤ a
        · have HN9 : Hid (tot = none) := Lib.hid (by rw [HT2.out, if_pos (.inr (.inl (by have := HA.out; omega)))])
          clear HT2
          go_wp2_with (go_at_call 168; refine (LO.out _).mono ?_; rintro e w' ⟨rfl, rfl⟩)
          all_goals (go_ret2; exact ER.out _ HN9.out)
        · obtain ⟨b, hb⟩ : ∃ b : Int, 16 * a + ((c : Int) - 48) = b := ⟨_, rfl⟩
          have hb1 : IntKind.u64.wrap (a * 16) = a * 16 := by rw [IntKind.wrap_u64]; omega
          have hb2 : a * 16 + ((c : Int) - 48) = b := by omega
          have hb0 : 0 ≤ b ∧ b < 18446744073709551616 := by omega
          have hb4 : ¬ b < a * 16 := by omega
          obtain ⟨p, hp⟩ : ∃ p : Int, a * 16 = p := ⟨_, rfl⟩
          rw [hp] at hb1 hb2 hb4
          have hp0 : 0 ≤ p ∧ p < 18446744073709551616 := by omega
          have HBB : Hid (b = ((16 * v + d : Nat) : Int)) := Lib.hid (by have := HA.out; have := HD.out; omega)
          clear hb
          by_cases g2 : 18446744073709551615 < b
          · have HN9 : Hid (tot = none) := Lib.hid (by rw [HT2.out, if_pos (.inr (.inr (by have := HBB.out; omega)))])
            clear HT2
            go_wp2_with (go_at_call 168; refine (LO.out _).mono ?_; rintro e w' ⟨rfl, rfl⟩)
            all_goals (go_ret2; exact ER.out _ HN9.out)
          · have HT3 : Hid (tot = px 18446744073709551615 (16 * v + d) (s.drop (k + 1))) := Lib.hid (by rw [HT2.out, if_neg (by have := HBB.out; have := HA.out; have := HD.out; omega)])
            clear HT2
            go_wp2_with (go_at_call 168; refine (LO.out _).mono ?_; rintro e w' ⟨rfl, rfl⟩)
            go_round
            case rel => exact ⟨k + 1, 16 * v + d, b, rfl, by go_num, by go_num, by omega, by omega, by omega, HBB, HT3⟩
            case measure => simp [intOf]; omega
      · have hc95 : ¬ (c : Int) = 95 := by omega
        have e95 : ((c : Int) == 95) = false := by simp; omega
        clear hl3
        by_cases g0 : 102 < l
        · have HN9 : Hid (tot = none) := Lib.hid (by rw [HT2.out, if_pos (.inl (by have := HD.out; omega))])
          clear HT2
          rcases (by omega : c < 48 ∨ 57 < c) with q0 | q0
          all_goals
            go_wp2_with (go_at_call 168; refine (LO.out _).mono ?_; rintro e w' ⟨rfl, rfl⟩)
            go_ret2
            exact EN.out _ HN9.out
        · rcases (by omega : c < 48 ∨ 57 < c) with q0 | q0
          all_goals
            by_cases g1 : 1152921504606846976 ≤ a
            · have HN9 : Hid (tot = none) := Lib.hid (by rw [HT2.out, if_pos (.inr (.inl (by have := HA.out; omega)))])
              clear HT2
              go_wp2_with (go_at_call 168; refine (LO.out _).mono ?_; rintro e w' ⟨rfl, rfl⟩)
              all_goals (go_ret2; exact ER.out _ HN9.out)
            · obtain ⟨b, hb⟩ : ∃ b : Int, 16 * a + ((l : Int) - 87) = b := ⟨_, rfl⟩
              have hb1 : IntKind.u64.wrap (a * 16) = a * 16 := by rw [IntKind.wrap_u64]; omega
              have hb2 : a * 16 + ((l : Int) - 87) = b := by omega
              have hb0 : 0 ≤ b ∧ b < 18446744073709551616 := by omega
              have hb4 : ¬ b < a * 16 := by omega
              obtain ⟨p, hp⟩ : ∃ p : Int, a * 16 = p := ⟨_, rfl⟩
              rw [hp] at hb1 hb2 hb4
              have hp0 : 0 ≤ p ∧ p < 18446744073709551616 := by omega
              have HBB : Hid (b = ((16 * v + d : Nat) : Int)) := Lib.hid (by have := HA.out; have := HD.out; omega)
              clear hb
              by_cases g2 : 18446744073709551615 < b
              · have HN9 : Hid (tot = none) := Lib.hid (by rw [HT2.out, if_pos (.inr (.inr (by have := HBB.out; omega)))])
                clear HT2
                go_wp2_with (go_at_call 168; refine (LO.out _).mono ?_; rintro e w' ⟨rfl, rfl⟩)
                all_goals (go_ret2; exact ER.out _ HN9.out)
              · have HT3 : Hid (tot = px 18446744073709551615 (16 * v + d) (s.drop (k + 1))) := Lib.hid (by rw [HT2.out, if_neg (by have := HBB.out; have := HA.out; have := HD.out; omega)])
                clear HT2
                go_wp2_with (go_at_call 168; refine (LO.out _).mono ?_; rintro e w' ⟨rfl, rfl⟩)
                go_round
                case rel => exact ⟨k + 1, 16 * v + d, b, rfl, by go_num, by go_num, by omega, by omega, by omega, HBB, HT3⟩
                case measure => simp [intOf]; omega
      · clear HT2
        by_cases h95 : c = 95
        · subst h95
          have L95 : Hid (∀ W : World, Calls Tryz.prog 168 #[.int .u8 95] W fun e w' => e = .returned (.int .u8 127) ∧ W = w') := Lib.hid (fun W => by
            refine (Tryz.internal_strconv_lower 95 W).mono ?_
            rintro e w' ⟨rfl, rfl⟩
            exact ⟨by rw [show bits BinOp.or IntKind.u8 95 32 = 127 by decide], rfl⟩)
          go_wp2_with (go_at_call 168; refine (L95.out _).mono ?_; rintro e w' ⟨rfl, rfl⟩)
          go_ret2
          exact EN.out _ HN9.out
        · have hc95 : ¬ (c : Int) = 95 := by omega
          have e95 : ((c : Int) == 95) = false := by simp; omega
          clear hl3
          rcases (by omega : c < 48 ∨ 57 < c) with q0 | q0 <;> rcases (by omega : l < 97 ∨ (97 ≤ l ∧ 122 < l)) with q1 | ⟨q1, q2⟩
          all_goals
            go_wp2_with (go_at_call 168; refine (LO.out _).mono ?_; rintro e w' ⟨rfl, rfl⟩)
            go_ret2
            exact EN.out _ HN9.out
    · obtain rfl : n = k := by omega
      have HR : Hid (tot = some v) := Lib.hid (by rw [HT.out, List.drop_of_length_le (by have := HNN.out; omega)]; rfl)
      clear HT
      go_wp2
      go_ret2
      exact ⟨.inl ⟨v, HR.out, by rw [HA.out]; rfl⟩, HBl.out⟩
end Go.Proofs.YtggfaalodojjkaaGreatDoor
namespace Go.Proofs.YtggfaalodojjkaaGreatDoor
open Go.RowKit Go.ChangeShapes Go.WideShapes Go.ChangeAt
set_option linter.unusedVariables false
set_option linter.unusedSimpArgs false
/-- what strconv's readers tell: a number, or an error -/
def UP (o : Option Nat) (w : World) (e : Ending) (w' : World) : Prop :=
  ((∃ v : Nat, o = some v ∧ e = .returned (.tuple #[.int .u64 (v : Int), .nilIface])) ∨ (o = none ∧ ∃ (x : Int) (N : Nat), e = .returned (.tuple #[.int .u64 x, .iface 250 (.pointer (some ⟨N, 0, none⟩))]))) ∧ Below w.heap.size w w'
def SP (o : Option Int) (w : World) (e : Ending) (w' : World) : Prop :=
  ((∃ v : Int, o = some v ∧ e = .returned (.tuple #[.int .i64 v, .nilIface])) ∨ (o = none ∧ ∃ (x : Int) (N : Nat), -9223372036854775808 ≤ x ∧ x ≤ 9223372036854775807 ∧ e = .returned (.tuple #[.int .i64 x, .iface 250 (.pointer (some ⟨N, 0, none⟩))]))) ∧ Below w.heap.size w w'
def o10 (B : Nat) (s : List UInt8) : Option Nat := match Lib.parseUintB B s with | .ok u => some u | _ => none
def oI (B : Nat) (s : List UInt8) : Option Int := match Lib.parseIntB B s with | .ok u => some u | _ => none
theorem bs_dl (s : List UInt8) : (bs s).data.toList = s := by simp [bs]
theorem o10_facts (B : Nat) (hB : B = 32 ∨ B = 64) (s : List UInt8) : (∀ u, o10 B s = some u → (decide (Lib.decDigits u = s) = (rdB 10 (2 ^ B - 1) s).isSome) ∧ ∀ n, rdB 10 (2 ^ B - 1) s = some n → u = n) ∧ (o10 B s = none → rdB 10 (2 ^ B - 1) s = none) ∧ (∀ u, o10 B s = some u → u < 18446744073709551616) := by
  have h := pu10 B hB s
  unfold o10
  cases hp : Lib.parseUintB B s with
  | «syntax» => exact ⟨fun u e => (by cases e), fun _ => h.2 (fun u e => (by rw [hp] at e; cases e)), fun u e => (by cases e)⟩
  | range => exact ⟨fun u e => (by cases e), fun _ => h.2 (fun u e => (by rw [hp] at e; cases e)), fun u e => (by cases e)⟩
  | ok v =>
    refine ⟨fun u e => ?_, fun e => (by cases e), fun u e => ?_⟩
    · injection e with e; subst e; exact h.1 v hp
    · injection e with e; subst e
      unfold Lib.parseUintB at hp
      split at hp
      · cases hp
      · have := pm_le _ _ _ _ (Nat.zero_le _) hp
        have hM : 2 ^ B - 1 < 18446744073709551616 := by rcases hB with rfl | rfl <;> decide
        omega
theorem oI_facts (B : Nat) (hB : B = 32 ∨ B = 64) (s : List UInt8) : (∀ v, oI B s = some v → (decide (Lib.itoa v = s) = (rdI B s).isSome) ∧ (∀ n, rdI B s = some n → v = n) ∧ -(2 ^ (B - 1) : Nat) ≤ v ∧ v < (2 ^ (B - 1) : Nat)) ∧ (oI B s = none → rdI B s = none) := by
  unfold oI rdI
  cases hp : Lib.parseIntB B s with
  | «syntax» => exact ⟨fun u e => (by cases e), fun _ => rfl⟩
  | range => exact ⟨fun u e => (by cases e), fun _ => rfl⟩
  | ok v =>
    refine ⟨fun u e => ?_, fun e => (by cases e)⟩
    injection e with e; subst e
    refine ⟨?_, fun n hn => ?_, pi_range B hB s v hp⟩
    · by_cases q : Lib.itoa v = s
      · simp [q]
      · simp [q]
    · simp only [] at hn
      split at hn
      · injection hn
      · cases hn
theorem PU10_32 (s : List UInt8) (hs : s.length ≤ 100) (w : World) (hL : Lw w) : Calls Tryz.prog 137 #[.string (bs s), .int .i64 10, .int .i64 32] w (UP (o10 32 s) w) := by
  have hsz := bs_size s
  obtain ⟨te, pe, hes⟩ := hL.es.2
  obtain ⟨te', pe', her⟩ := hL.er.2
  unfold o10
  cases hp : Lib.parseUintB 32 s with
  | «syntax» =>
    refine (Tryz.strconv_ParseUint_10_at32_syntax (bs s) (by omega) (by rw [bs_dl]; exact hp) _ w hes (.inr ⟨te, pe, rfl⟩)).mono ?_
    rintro e w' ⟨N, rfl, _, _, hb⟩
    exact ⟨.inr ⟨rfl, _, N, rfl⟩, hb⟩
  | range =>
    refine (Tryz.strconv_ParseUint_10_at32_range (bs s) (by omega) (by rw [bs_dl]; exact hp) _ w her (.inr ⟨te', pe', rfl⟩)).mono ?_
    rintro e w' ⟨N, rfl, _, _, hb⟩
    exact ⟨.inr ⟨rfl, _, N, rfl⟩, hb⟩
  | ok v =>
    refine (Tryz.strconv_ParseUint_10_at32_ok (bs s) (by omega) v (by rw [bs_dl]; exact hp) w).mono ?_
    rintro e w' ⟨rfl, hw⟩
    refine ⟨.inl ⟨v, rfl, rfl⟩, ?_⟩
    rcases hw with rfl | rfl
    · exact Below.refl _ _
    · exact Lib_below _ _
theorem PI10_32 (s : List UInt8) (hs : s.length ≤ 100) (w : World) (hL : Lw w) : Calls Tryz.prog 138 #[.string (bs s), .int .i64 10, .int .i64 32] w (SP (oI 32 s) w) := by
  have hsz := bs_size s
  obtain ⟨te, pe, hes⟩ := hL.es.2
  obtain ⟨te', pe', her⟩ := hL.er.2
  unfold oI
  cases hp : Lib.parseIntB 32 s with
  | «syntax» =>
    refine (Tryz.strconv_ParseInt_10_at32_syntax (bs s) (by omega) (by rw [bs_dl]; exact hp) _ w hes (.inr ⟨te, pe, rfl⟩)).mono ?_
    rintro e w' ⟨N, rfl, _, _, hb⟩
    exact ⟨.inr ⟨rfl, _, N, by decide, by decide, rfl⟩, hb⟩
  | range =>
    refine (Tryz.strconv_ParseInt_10_at32_range (bs s) (by omega) (by rw [bs_dl]; exact hp) _ w her (.inr ⟨te', pe', rfl⟩)).mono ?_
    rintro e w' ⟨N, rfl, _, _, hb⟩
    exact ⟨.inr ⟨rfl, _, N, by unfold Lib.intSat; split <;> decide, by unfold Lib.intSat; split <;> decide, rfl⟩, hb⟩
  | ok v =>
    refine (Tryz.strconv_ParseInt_10_at32_ok (bs s) (by omega) v (by rw [bs_dl]; exact hp) w).mono ?_
    rintro e w' ⟨rfl, hw⟩
    refine ⟨.inl ⟨v, rfl, rfl⟩, ?_⟩
    rcases hw with rfl | ⟨t, rfl⟩
    · exact Below.refl _ _
    · exact Lib_below _ _
set_option maxHeartbeats 4000000 in
set_option maxRecDepth 100000 in
theorem IPU16e_32 (w : World) : Calls Tryz.prog 157 #[.string ⟨#[]⟩, .int .i64 16, .int .i64 32] w fun e w' => e = .returned (.tuple #[.int .u64 0, .iface 247 (.int .i64 2)]) ∧ w = w' := by
  go_enter Tryz.func157, Tryz.ntmps157
  go_wp2
  go_ret2
  exact ⟨rfl, rfl⟩
theorem IPU16a_32 (s : List UInt8) (hs : s.length ≤ 100) (w : World) : Calls Tryz.prog 157 #[.string (bs s), .int .i64 16, .int .i64 32] w (IP (puH 4294967295 s) w) := by
  by_cases h : s = []
  · subst h
    refine (IPU16e_32 w).mono ?_
    rintro e w' ⟨rfl, rfl⟩
    exact ⟨.inr ⟨rfl, 0, 2, .inr rfl, rfl⟩, Below.refl _ _⟩
  · exact IPU16_32 s hs h w
set_option maxHeartbeats 4000000 in
set_option maxRecDepth 100000 in
theorem PU16_32 (s : List UInt8) (hs : s.length ≤ 100) (w : World) (hL : Lw w) : Calls Tryz.prog 137 #[.string (bs s), .int .i64 16, .int .i64 32] w (UP (puH 4294967295 s) w) := by
  have hsz := bs_size s
  have HL := Lib.hid hL
  have I := Lib.hid (IPU16a_32 s hs w)
  generalize puH 4294967295 s = O at I
  have TE : Hid (∀ (W : World) (k : Int), (k = 1 ∨ k = 2) → Below w.heap.size w W → Calls Tryz.prog 158 #[.string ⟨#[80, 97, 114, 115, 101, 85, 105, 110, 116]⟩, .string (bs s), .int .i64 16, .int .i64 32, .iface 247 (.int .i64 k)] W fun e w' => (∃ N : Nat, e = .returned (.iface 250 (.pointer (some ⟨N, 0, none⟩)))) ∧ Below W.heap.size W w') := Lib.hid (fun W k hk hb => by
    have hLW := HL.out.below hb
    rcases hk with rfl | rfl
    · obtain ⟨te, pe, her⟩ := hLW.er.2
      refine (Tryz.strconv_toError_range _ (bs s) 16 32 _ W (by omega) her (.inr ⟨te, pe, rfl⟩)).mono ?_
      rintro e w' ⟨N, rfl, _, _, hb⟩
      exact ⟨⟨N, rfl⟩, hb⟩
    · obtain ⟨te, pe, hes⟩ := hLW.es.2
      refine (Tryz.strconv_toError_syntax _ (bs s) 16 32 _ W (by omega) hes (.inr ⟨te, pe, rfl⟩)).mono ?_
      rintro e w' ⟨N, rfl, _, _, hb⟩
      exact ⟨⟨N, rfl⟩, hb⟩)
  generalize bs s = S at I TE hsz
  clear hL hs hsz
  go_enter Tryz.func137, Tryz.ntmps137
  go_wp2_with fail
  refine I.out.mono ?_
  rintro e w1 ⟨ho, hb⟩
  have HB := Lib.hid hb
  clear hb
  rcases ho with ⟨v, rfl, rfl⟩ | ⟨rfl, x, k, hk, rfl⟩
  · go_wp2_with fail
    go_ret2
    exact ⟨.inl ⟨v, rfl, rfl⟩, HB.out⟩
  · have TEk := Lib.hid (TE.out w1 k hk HB.out)
    go_wp2_with fail
    refine TEk.out.mono ?_
    rintro e w2 ⟨⟨N, rfl⟩, hb⟩
    have HB2 := Lib.hid (HB.out.trans (hb.mono HB.out.size))
    clear hb
    go_wp2_with fail
    go_ret2
    exact ⟨.inr ⟨rfl, x, N, rfl⟩, HB2.out⟩
theorem PU10_64 (s : List UInt8) (hs : s.length ≤ 100) (w : World) (hL : Lw w) : Calls Tryz.prog 137 #[.string (bs s), .int .i64 10, .int .i64 64] w (UP (o10 64 s) w) := by
  have hsz := bs_size s
  obtain ⟨te, pe, hes⟩ := hL.es.2
  obtain ⟨te', pe', her⟩ := hL.er.2
  unfold o10
  cases hp : Lib.parseUintB 64 s with
  | «syntax» =>
    refine (Tryz.strconv_ParseUint_10_at64_syntax (bs s) (by omega) (by rw [bs_dl]; exact hp) _ w hes (.inr ⟨te, pe, rfl⟩)).mono ?_
    rintro e w' ⟨N, rfl, _, _, hb⟩
    exact ⟨.inr ⟨rfl, _, N, rfl⟩, hb⟩
  | range =>
    refine (Tryz.strconv_ParseUint_10_at64_range (bs s) (by omega) (by rw [bs_dl]; exact hp) _ w her (.inr ⟨te', pe', rfl⟩)).mono ?_
    rintro e w' ⟨N, rfl, _, _, hb⟩
    exact ⟨.inr ⟨rfl, _, N, rfl⟩, hb⟩
  | ok v =>
    refine (Tryz.strconv_ParseUint_10_at64_ok (bs s) (by omega) v (by rw [bs_dl]; exact hp) w).mono ?_
    rintro e w' ⟨rfl, hw⟩
    refine ⟨.inl ⟨v, rfl, rfl⟩, ?_⟩
    rcases hw with rfl | rfl
    · exact Below.refl _ _
    · exact Lib_below _ _
theorem PI10_64 (s : List UInt8) (hs : s.length ≤ 100) (w : World) (hL : Lw w) : Calls Tryz.prog 138 #[.string (bs s), .int .i64 10, .int .i64 64] w (SP (oI 64 s) w) := by
  have hsz := bs_size s
  obtain ⟨te, pe, hes⟩ := hL.es.2
  obtain ⟨te', pe', her⟩ := hL.er.2
  unfold oI
  cases hp : Lib.parseIntB 64 s with
  | «syntax» =>
    refine (Tryz.strconv_ParseInt_10_at64_syntax (bs s) (by omega) (by rw [bs_dl]; exact hp) _ w hes (.inr ⟨te, pe, rfl⟩)).mono ?_
    rintro e w' ⟨N, rfl, _, _, hb⟩
    exact ⟨.inr ⟨rfl, _, N, by decide, by decide, rfl⟩, hb⟩
  | range =>
    refine (Tryz.strconv_ParseInt_10_at64_range (bs s) (by omega) (by rw [bs_dl]; exact hp) _ w her (.inr ⟨te', pe', rfl⟩)).mono ?_
    rintro e w' ⟨N, rfl, _, _, hb⟩
    exact ⟨.inr ⟨rfl, _, N, by unfold Lib.intSat; split <;> decide, by unfold Lib.intSat; split <;> decide, rfl⟩, hb⟩
  | ok v =>
    refine (Tryz.strconv_ParseInt_10_at64_ok (bs s) (by omega) v (by rw [bs_dl]; exact hp) w).mono ?_
    rintro e w' ⟨rfl, hw⟩
    refine ⟨.inl ⟨v, rfl, rfl⟩, ?_⟩
    rcases hw with rfl | ⟨t, rfl⟩
    · exact Below.refl _ _
    · exact Lib_below _ _
set_option maxHeartbeats 4000000 in
set_option maxRecDepth 100000 in
theorem IPU16e_64 (w : World) : Calls Tryz.prog 157 #[.string ⟨#[]⟩, .int .i64 16, .int .i64 64] w fun e w' => e = .returned (.tuple #[.int .u64 0, .iface 247 (.int .i64 2)]) ∧ w = w' := by
  go_enter Tryz.func157, Tryz.ntmps157
  go_wp2
  go_ret2
  exact ⟨rfl, rfl⟩
theorem IPU16a_64 (s : List UInt8) (hs : s.length ≤ 100) (w : World) : Calls Tryz.prog 157 #[.string (bs s), .int .i64 16, .int .i64 64] w (IP (puH 18446744073709551615 s) w) := by
  by_cases h : s = []
  · subst h
    refine (IPU16e_64 w).mono ?_
    rintro e w' ⟨rfl, rfl⟩
    exact ⟨.inr ⟨rfl, 0, 2, .inr rfl, rfl⟩, Below.refl _ _⟩
  · exact IPU16_64 s hs h w
set_option maxHeartbeats 4000000 in
set_option maxRecDepth 100000 in
theorem PU16_64 (s : List UInt8) (hs : s.length ≤ 100) (w : World) (hL : Lw w) : Calls Tryz.prog 137 #[.string (bs s), .int .i64 16, .int .i64 64] w (UP (puH 18446744073709551615 s) w) := by
  have hsz := bs_size s
  have HL := Lib.hid hL
  have I := Lib.hid (IPU16a_64 s hs w)
  generalize puH 18446744073709551615 s = O at I
  have TE : Hid (∀ (W : World) (k : Int), (k = 1 ∨ k = 2) → Below w.heap.size w W → Calls Tryz.prog 158 #[.string ⟨#[80, 97, 114, 115, 101, 85, 105, 110, 116]⟩, .string (bs s), .int .i64 16, .int .i64 64, .iface 247 (.int .i64 k)] W fun e w' => (∃ N : Nat, e = .returned (.iface 250 (.pointer (some ⟨N, 0, none⟩)))) ∧ Below W.heap.size W w') := Lib.hid (fun W k hk hb => by
    have hLW := HL.out.below hb
    rcases hk with rfl | rfl
    · obtain ⟨te, pe, her⟩ := hLW.er.2
      refine (Tryz.strconv_toError_range _ (bs s) 16 64 _ W (by omega) her (.inr ⟨te, pe, rfl⟩)).mono ?_
      rintro e w' ⟨N, rfl, _, _, hb⟩
      exact ⟨⟨N, rfl⟩, hb⟩
    · obtain ⟨te, pe, hes⟩ := hLW.es.2
      refine (Tryz.strconv_toError_syntax _ (bs s) 16 64 _ W (by omega) hes (.inr ⟨te, pe, rfl⟩)).mono ?_
      rintro e w' ⟨N, rfl, _, _, hb⟩
      exact ⟨⟨N, rfl⟩, hb⟩)
  generalize bs s = S at I TE hsz
  clear hL hs hsz
  go_enter Tryz.func137, Tryz.ntmps137
  go_wp2_with fail
  refine I.out.mono ?_
  rintro e w1 ⟨ho, hb⟩
  have HB := Lib.hid hb
  clear hb
  rcases ho with ⟨v, rfl, rfl⟩ | ⟨rfl, x, k, hk, rfl⟩
  · go_wp2_with fail
    go_ret2
    exact ⟨.inl ⟨v, rfl, rfl⟩, HB.out⟩
  · have TEk := Lib.hid (TE.out w1 k hk HB.out)
    go_wp2_with fail
    refine TEk.out.mono ?_
    rintro e w2 ⟨⟨N, rfl⟩, hb⟩
    have HB2 := Lib.hid (HB.out.trans (hb.mono HB.out.size))
    clear hb
    go_wp2_with fail
    go_ret2
    exact ⟨.inr ⟨rfl, x, N, rfl⟩, HB2.out⟩
end Go.Proofs.YtggfaalodojjkaaGreatDoor
