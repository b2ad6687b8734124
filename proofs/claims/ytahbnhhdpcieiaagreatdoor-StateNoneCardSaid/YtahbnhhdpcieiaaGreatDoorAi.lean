/-
  arena.Arena.word, Put, Get, of numbers of four and of eight bytes that lie in the arena.
-/
import Derived.Test.YtahbnhhdpcieiaaGreatDoorAh
namespace Go.Proofs.YtahbnhhdpcieiaaGreatDoor
open Go.RowKit
set_option linter.unusedVariables false
set_option maxHeartbeats 1000000 in
set_option maxRecDepth 100000 in
theorem word_ok (a bb rm gm : Nat) (d : Ad) (p W : Nat) (w : World) (h : Are w a bb rm gm d) (hW : W = 4 ∨ W = 8) (hp : p + W ≤ d.sz) :
    Calls Tryz.prog 106 #[.pointer (some ⟨a, 0, none⟩), .int .i64 p, .int .i64 W] w fun e w' => e = .returned (.int .i64 0) ∧ w = w' := by
  have HH := Lib.hid (Ahas_ok a bb rm gm d p W w h hp)
  have hlim := h.lim
  clear h
  rcases hW with rfl | rfl
  all_goals
    go_enter Tryz.func106, Tryz.ntmps106
    go_wp2_with (go_at_call 115; refine HH.out.mono ?_; rintro e w' ⟨rfl, rfl⟩)
    go_ret
    exact ⟨rfl, rfl⟩
theorem Ad.cpy_nil (d : Ad) (p : Nat) : d.cpy p [] = d := by
  unfold Ad.cpy
  rw [putM_nil]
def PuPost (a bb rm gm : Nat) (d : Ad) (p W v : Nat) (w : World) (e : Ending) (w' : World) : Prop :=
  e = .returned (.int .i64 0) ∧ Are w' a bb rm gm (d.cpy p (leN v W)) ∧ Fr (· = bb) w w'
theorem Are.byte {w : World} {a bb rm gm : Nat} {d : Ad} (h : Are w a bb rm gm d) {i : Nat} (hi : i < d.sz) : w.cell? ⟨bb, i, none⟩ = some (U8 (d.mem.getD i 0)) := by
  rw [h.byt.cell, List.getElem?_toArray, map_getD _ _ (by rw [h.len]; exact hi)]
theorem Are.putB {w : World} {a bb rm gm : Nat} {d : Ad} {p k v : Nat} (h : Are w a bb rm gm (d.cpy p (leN v k))) (hp : p + k < d.sz) : Are (w.setCell ⟨bb, p + k, none⟩ (U8 (v / 256 ^ k % 256))) a bb rm gm (d.cpy p (leN v (k + 1))) := by
  have hl : (d.cpy p (leN v k)).mem.length = d.sz := h.len
  have hd : d.mem.length = d.sz := by
    have : (putM d.mem p (leN v k)).length = d.sz := hl
    unfold putM at this
    simp [leN_len] at this
    omega
  have hf : Fr (· = bb) w (w.setCell ⟨bb, p + k, none⟩ (U8 (v / 256 ^ k % 256))) := (Fr.refl (· = bb) w).set_ (p := ⟨bb, p + k, none⟩) rfl _
  have e : putM d.mem p (leN v (k + 1)) = putM (d.cpy p (leN v k)).mem (p + k) [v / 256 ^ k % 256] := by
    show _ = putM (putM d.mem p (leN v k)) (p + k) [v / 256 ^ k % 256]
    have h1 := putM_snoc (mem := d.mem) (l := leN v k) (p := p) (x := v / 256 ^ k % 256) (by rw [leN_len, hd]; omega)
    rw [leN_len] at h1
    rw [show leN v (k + 1) = leN v k ++ [v / 256 ^ k % 256] from rfl, ← h1]
    have h2 := putM_snoc (mem := putM d.mem p (leN v k)) (l := []) (p := p + k) (x := v / 256 ^ k % 256) (by simpa [putM_nil] using (show p + k < (putM d.mem p (leN v k)).length by rw [show (putM d.mem p (leN v k)).length = d.sz from hl]; omega))
    simpa [putM_nil] using h2
  have hb := h.byt.set_ (p + k) (U8 (v / 256 ^ k % 256))
  have := h.cpy (w' := w.setCell ⟨bb, p + k, none⟩ (U8 (v / 256 ^ k % 256))) (p := p + k) (l := [v / 256 ^ k % 256]) (by simp; exact hp) (by intro x hx; simp at hx; omega) (by
    rw [← e]
    have h1 := putM_snoc (mem := d.mem) (l := leN v k) (p := p) (x := v / 256 ^ k % 256) (by rw [leN_len, hd]; omega)
    rw [leN_len] at h1
    rw [show leN v (k + 1) = leN v k ++ [v / 256 ^ k % 256] from rfl, ← h1, List.map_set]
    simpa [Ad.cpy] using hb) hf
  have e2 : (d.cpy p (leN v k)).cpy (p + k) [v / 256 ^ k % 256] = d.cpy p (leN v (k + 1)) := by
    show { d with mem := putM (d.cpy p (leN v k)).mem (p + k) [v / 256 ^ k % 256] } = { d with mem := putM d.mem p (leN v (k + 1)) }
    rw [e]
  rw [e2] at this
  exact this
set_option maxHeartbeats 1000000 in
set_option maxRecDepth 100000 in
theorem Put_ok (a bb rm gm : Nat) (d : Ad) (p W v : Nat) (w : World) (h : Are w a bb rm gm d) (hW : W = 4 ∨ W = 8) (hp : p + W ≤ d.sz) (hv : v < 18446744073709551616) :
    Calls Tryz.prog 54 #[.pointer (some ⟨a, 0, none⟩), .int .i64 p, .int .i64 W, .int .u64 v] w (PuPost a bb rm gm d p W v w) := by
  have HW := Lib.hid (word_ok a bb rm gm d p W w h hW hp)
  have hlim := h.lim
  have H : Hid (Are w a bb rm gm (d.cpy p (leN v 0))) := Lib.hid (by rw [show leN v 0 = [] from rfl, Ad.cpy_nil]; exact h)
  have h1 : 0 < W ∧ W ≤ 8 := by omega
  clear h hW
  obtain ⟨h1, h2⟩ := h1
  go_enter Tryz.func54, Tryz.ntmps54
  go_wp2_with (go_at_call 106; refine HW.out.mono ?_; rintro e w' ⟨rfl, rfl⟩)
  go_loopw [10, 19] (fun v10 v19 wr => ∃ k : Nat, k ≤ W ∧ v19 = .int .i64 k ∧ Hid (Are wr a bb rm gm (d.cpy p (leN v k))) ∧ Hid (Fr (· = bb) w wr)) (fun _ v19 _ => W - (intOf v19).toNat)
  case atStart => exact ⟨0, Nat.zero_le _, rfl, H, Lib.hid (Fr.refl _ _)⟩
  case round =>
    obtain ⟨k, hk, rfl, HQ, HF⟩ := hrel
    by_cases hlt : k < W
    · have c0 : wr.cell? ⟨a, 0, none⟩ = some (.slice (some ⟨bb, 0, none⟩) d.sz d.sz) := HQ.out.blk.cell 0
      have d5 : ∃ v0, wr.cell? ⟨bb, p + k, none⟩ = some v0 := ⟨_, HQ.out.byte (by show p + k < d.sz; omega)⟩
      obtain ⟨v0, d5⟩ := d5
      have z5 : wr.frozen? ⟨bb, p + k, none⟩ = false := HQ.out.byt.frozen _
      have HN' := Lib.hid (HQ.out.putB (by omega))
      have HFN := Lib.hid (HF.out.set_ (p := ⟨bb, p + k, none⟩) rfl (U8 (v / 256 ^ k % 256)))
      have hval : (v : Int) / 2 ^ (8 * k) % 256 = ((v / 256 ^ k % 256 : Nat) : Int) := by
        rw [show (256 : Nat) ^ k = 2 ^ (8 * k) by rw [Nat.pow_mul]]
        push_cast
        rfl
      obtain ⟨y, ey⟩ : ∃ y, y = v / 256 ^ k % 256 := ⟨_, rfl⟩
      rw [← ey] at hval HN' HFN
      clear ey
      go_wp2
      go_region
      all_goals
        go_wp2
        exact ⟨⟨k + 1, by omega, by go_num, Lib.hid (HN'.out.drewN 1), Lib.hid HFN.out.drew⟩, by simp [intOf]; omega⟩
    · obtain rfl : W = k := by omega
      go_wp2
      go_ret
      exact ⟨rfl, HQ.out, HF.out⟩
theorem wrap_nat (a p : Nat) : IntKind.u64.wrap ((a : Int) * 2 ^ p) = ((a * 2 ^ p % 18446744073709551616 : Nat) : Int) := by
  rw [IntKind.wrap_u64]
  simp
theorem or_nat (a b : Nat) (ha : a < 18446744073709551616) (hb : b < 18446744073709551616) : bits BinOp.or IntKind.u64 (a : Int) (b : Int) = ((a ||| b : Nat) : Int) := u64_or_nat a b ha hb
theorem or_swap (a b : Nat) : a ||| b = b ||| a := Nat.or_comm a b
set_option maxHeartbeats 1000000 in
set_option maxRecDepth 100000 in
theorem Get_ok (a bb rm gm : Nat) (d : Ad) (p W : Nat) (w : World) (h : Are w a bb rm gm d) (hW : W = 4 ∨ W = 8) (hp : p + W ≤ d.sz) :
    Calls Tryz.prog 56 #[.pointer (some ⟨a, 0, none⟩), .int .i64 p, .int .i64 W] w fun e w' => e = .returned (.tuple #[.int .u64 ((wdN d.mem p W : Nat) : Int), .int .i64 0]) ∧ w = w' := by
  have HW := Lib.hid (word_ok a bb rm gm d p W w h hW hp)
  have hlim := h.lim
  have H := Lib.hid h
  have c0 : w.cell? ⟨a, 0, none⟩ = some (.slice (some ⟨bb, 0, none⟩) d.sz d.sz) := h.blk.cell 0
  have h1 : 0 < W ∧ W ≤ 8 := by omega
  obtain ⟨f, ef⟩ : ∃ f : Nat → Nat, f = fun i => d.mem.getD (p + i) 0 := ⟨_, rfl⟩
  have HL : Hid (∀ i, f i < 256) := Lib.hid (fun i => by
    rw [ef]
    show d.mem.getD (p + i) 0 < 256
    rw [getD_eq]
    rcases Nat.lt_or_ge (p + i) d.mem.length with h1 | h1
    · rw [List.getElem?_eq_getElem h1]; exact h.all _ (List.getElem_mem h1)
    · rw [List.getElem?_eq_none h1]; decide)
  have HV : Hid (wdN d.mem p W = unle f W) := Lib.hid (by rw [ef]; rfl)
  have HC : Hid (∀ k, k < W → w.cell? ⟨bb, p + k, none⟩ = some (.int .u8 ((f k : Nat) : Int))) := Lib.hid (fun k hk => by rw [ef]; exact h.byte (by omega))
  clear h hW ef
  obtain ⟨h1, h2⟩ := h1
  go_enter Tryz.func56, Tryz.ntmps56
  go_wp2_with (go_at_call 106; refine HW.out.mono ?_; rintro e w' ⟨rfl, rfl⟩)
  go_loop [9, 10, 11, 29] (fun v9 v10 v11 v29 => ∃ k m : Nat, k ≤ W ∧ v29 = .int .i64 k ∧ v9 = .int .u64 m ∧ Hid (m = unle f k)) (fun _ _ _ v29 => W - (intOf v29).toNat)
  case atStart => exact ⟨0, 0, Nat.zero_le _, rfl, rfl, Lib.hid rfl⟩
  case round =>
    obtain ⟨k, m, hk, rfl, rfl, HM⟩ := hrel
    by_cases hlt : k < W
    · have hc := HC.out k hlt
      have hm := unle_lt f k (fun i _ => HL.out i)
      have hx := HL.out k
      have hV : unle f (k + 1) = unle f k + f k * 256 ^ k := rfl
      have hV2 := unle_lt f (k + 1) (fun i _ => HL.out i)
      have hk64 : (256 : Nat) ^ (k + 1) ≤ 256 ^ 8 := Nat.pow_le_pow_right (by decide) (by omega)
      rw [show (256 : Nat) ^ k = 2 ^ (8 * k) by rw [Nat.pow_mul]] at hm hV
      rw [← HM.out] at hm hV
      obtain ⟨x, ex⟩ : ∃ x, x = f k := ⟨_, rfl⟩
      rw [← ex] at hc hx hV
      have hle : m + x * 2 ^ (8 * k) < 18446744073709551616 := by rw [← hV]; exact Nat.lt_of_lt_of_le hV2 hk64
      have e1 : IntKind.u64.wrap ((x : Int) * 2 ^ (8 * k)) = ((x * 2 ^ (8 * k) : Nat) : Int) := by
        rw [wrap_nat, Nat.mod_eq_of_lt (by omega)]
      have e2 : bits BinOp.or IntKind.u64 (m : Int) ((x * 2 ^ (8 * k) : Nat) : Int) = ((m + x * 2 ^ (8 * k) : Nat) : Int) := by
        rw [or_nat m _ (by omega) (by omega), or_swap, Nat.mul_comm, ← Nat.two_pow_add_eq_or_of_lt hm, Nat.add_comm]
      obtain ⟨y, ey⟩ : ∃ y, y = x * 2 ^ (8 * k) := ⟨_, rfl⟩
      obtain ⟨z, ez⟩ : ∃ z, z = m + x * 2 ^ (8 * k) := ⟨_, rfl⟩
      rw [← ez] at e2
      rw [← ey] at e1 e2
      have HZ : Hid (z = unle f (k + 1)) := Lib.hid (by rw [ez, hV])
      clear hm hV hV2 hk64 hle ex ey ez
      go_wp2
      exact ⟨⟨k + 1, z, by omega, by go_num, rfl, HZ⟩, by simp [intOf]; omega⟩
    · obtain rfl : W = k := by omega
      go_wp2
      go_ret2
      exact ⟨ret_pair (by rw [HM.out, HV.out]) rfl, rfl⟩
end Go.Proofs.YtahbnhhdpcieiaaGreatDoor
