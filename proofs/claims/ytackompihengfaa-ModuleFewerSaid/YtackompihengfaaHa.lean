/-
  ModuleFinds: what its walk wants beside: a row owned read as bytes; Sig of no function; the end of its text.
-/
import Derived.Test.YtackompihengfaaUc
import Derived.Test.YtackompihengfaaFj
import Derived.BigQuiet
import Derived.Deep.RegionHeld3
namespace Go.Proofs.Ytackompihengfaa
open Go.RowKit Go.PlainAid
set_option linter.unusedVariables false
set_option linter.unusedSimpArgs false
theorem byt_own76 {w : World} {B n : Nat} {v : Value} {l : List Nat} (h : w.ownsRow B 76 1 v n (l.map U8)) (hl : l.length = n) (hx : ∀ x ∈ l, x < 256) (hn : n ≤ maxLen) : ∃ A cp, v = .slice A n cp ∧ Byt w A n cp l := by
  rcases Nat.eq_zero_or_pos n with h0 | h0
  · subst h0
    rcases h.2 with ⟨e, h1⟩ | ⟨g, cap, cur, e, h1, h2, h3, h4, h5, h6⟩
    · subst e
      exact ⟨none, 0, rfl, ⟨hl, hx, Nat.le_refl _, Nat.zero_le _, fun q => absurd q (by omega)⟩⟩
    · subst e
      exact ⟨_, _, rfl, ⟨hl, hx, by omega, h4, fun q => absurd q (by omega)⟩⟩
  · rcases h.2 with ⟨e, h1⟩ | ⟨g, cap, cur, e, h1, h2, h3, h4, h5, h6⟩
    · omega
    · subst e
      refine ⟨_, _, rfl, ⟨hl, hx, h3, h4, fun _ => ⟨g, 0, rfl, (h.lt g rfl).2, fun j hj => ?_⟩⟩⟩
      rw [Nat.zero_add, h.cellAt j (by omega), List.getElem?_map, List.getD_eq_getElem?_getD, List.getElem?_eq_getElem (by omega)]
      rfl
/-- the text from region n on -/
def fromReg (n : Nat) : Code → Option Code
  | .seq a b => match a with
    | .region i _ _ => if i = n then some (.seq a b) else fromReg n b
    | c => match fromReg n c with
      | some c => some c
      | none => fromReg n b
  | .loop c => fromReg n c
  | .block _ c => fromReg n c
  | .scope c => fromReg n c
  | .cond _ a b => match fromReg n a with
    | some c => some c
    | none => fromReg n b
  | _ => none
noncomputable def mfCode (n : Nat) : Code := ((Try.f3.body.bind (fromReg n)).getD .skip)
set_option maxHeartbeats 4000000 in
set_option maxRecDepth 100000 in
theorem Sig_no (g n1 n2 : Nat) (f : Int) (w : World) (hf : f < 0 ∨ ((n1 + n2 : Nat) : Int) ≤ f)
    (hc : ∀ W, Below w.heap.size w W → Calls Try.prog 10 #[.pointer (some ⟨g, 0, none⟩)] W fun e w' => e = .returned (.int .i64 ((n1 + n2 : Nat) : Int)) ∧ Below W.heap.size W w') :
    Calls Try.prog 14 #[.pointer (some ⟨g, 0, none⟩), .int .i64 f] w fun e w' => e = .returned (.tuple #[.agg #[.slice none 0 0, .slice none 0 0], .bool false]) ∧ Below w.heap.size w w' := by
  have HC := Lib.hid hc
  have HW1 : Hid (∀ W, Calls Try.prog 27 #[.int .i64 f, .int .i64 ((n1 + n2 : Nat) : Int)] W fun e w' => e = .returned (.bool false) ∧ W = w') := Lib.hid (fun W => by
    have h := within_any f ((n1 + n2 : Nat) : Int) W
    rw [show (decide ((0 : Int) ≤ f) && decide (f < ((n1 + n2 : Nat) : Int))) = false from by simp; omega] at h
    exact h)
  generalize n1 + n2 = nn at *
  clear hc hf
  have HB0 := Lib.hid ((Below.refl w.heap.size w).alloc (Nat.le_refl _) (.cells #[.slice none 0 0, .slice none 0 0] 42))
  have HRB := Lib.hid (Blk.new w 42 #[.slice none 0 0, .slice none 0 0])
  go_enter Try.func14, Try.ntmps14
  go_wp2_with (first
    | (go_at_call 10; (with_reducible refine (HC.out _ HB0.out).mono ?_); rintro e w2 ⟨rfl, hb⟩
       have HB2 : Hid (Below w.heap.size w w2) := Lib.hid (HB0.out.trans (hb.mono HB0.out.size))
       have HRB2 := Lib.hid (HRB.out.below hb HRB.out.lt)
       have y0 := HRB2.out.cell 0
       have y1 := HRB2.out.cell 1
       have z0 : w2.frozen? ⟨w.heap.size, 0, none⟩ = false := HRB2.out.frozen 0
       have b1 := HRB2.out.set_ 0 (.slice none 0 0)
       have y1' := b1.cell 1
       have z1' : (w2.setCell ⟨w.heap.size, 0, none⟩ (.slice none 0 0)).frozen? ⟨w.heap.size, 1, none⟩ = false := b1.frozen 1
       have HB3 := Lib.hid (b1.set_ 1 (.slice none 0 0))
       have HBS : Hid (Below w.heap.size w ((w2.setCell ⟨w.heap.size, 0, none⟩ (.slice none 0 0)).setCell ⟨w.heap.size, 1, none⟩ (.slice none 0 0))) := Lib.hid ((HB2.out.setCell (by simp) _).setCell (by simp) _)
       clear hb b1)
    | (go_at_call 27; (with_reducible refine (HW1.out _).mono ?_); rintro e w4 ⟨rfl, rfl⟩))
  have r0 := HB3.out.cell 0
  have r1 := HB3.out.cell 1
  simp at r0 r1
  refine bodyPost_ret (v := .tuple #[.agg #[.slice none 0 0, .slice none 0 0], .bool false]) ?_ rfl ⟨rfl, HBS.out⟩
  simp [results, results14, go_sem, r0, r1]
set_option maxHeartbeats 4000000 in
set_option maxRecDepth 100000 in
theorem mf_none {w wr : World} {bx g : Nat} {A6 : Option Addr} {n6 c6 : Nat} {X6 : Nat → ExT} {s : ByteArray} (hx : exF X6 s n6 0 = none)
    (hB : Below w.heap.size w wr) (hxc : wr.cell? ⟨bx, 6, none⟩ = some (.slice A6 n6 c6)) (hbx : bx < wr.heap.size) (hr : Row 3 ExAt wr A6 n6 c6 X6) (hn : n6 ≤ 200)
    (hf : Calls Try.prog 19 #[.pointer (some ⟨g, 0, none⟩), .string s] wr fun e w' => e = .returned (fdv X6 (exF X6 s n6 0)) ∧ Below wr.heap.size wr w')
    (s0 s1 s4 s5 s6 s8 s9 s10 s11 s12 s13 s14 s15 s16 s17 s18 s19 s20 s21 s22 s23 s24 s25 s26 s27 s28 s29 s30 s31 s32 s33 s34 s35 s36 s37 s38 s39 s40 s41 s42 s43 s44 s45 s46 s47 s48 s49 s50 s51 s52 s53 s54 s55 s56 s57 s58 s59 s60 s61 s62 s63 s64 s65 s66 s67 s68 s69 s70 s71 s72 s73 s74 s75 s76 s77 s78 s79 s80 s81 s82 s83 s84 s85 s86 s87 s88 s89 s90 s91 s92 s93 s94 s95 s96 s97 s98 s99 s100 s101 s102 s103 s104 s105 s106 s107 s108 s109 s110 s111 s112 s113 s114 s115 s116 s117 s118 : Value) : Code.wp Try.prog (mfCode 16) (bodyPost Try.prog Try.f3 fun e w' => e = .returned (.bool true) ∧ Below w.heap.size w w') ⟨#[s0, s1, .string s, .pointer (some ⟨bx, 0, none⟩), s4, s5, s6, .pointer (some ⟨g, 0, none⟩), s8, s9, s10, s11, s12, s13, s14, s15, s16, s17, s18, s19, s20, s21, s22, s23, s24, s25, s26, s27, s28, s29, s30, s31, s32, s33, s34, s35, s36, s37, s38, s39, s40, s41, s42, s43, s44, s45, s46, s47, s48, s49, s50, s51, s52, s53, s54, s55, s56, s57, s58, s59, s60, s61, s62, s63, s64, s65, s66, s67, s68, s69, s70, s71, s72, s73, s74, s75, s76, s77, s78, s79, s80, s81, s82, s83, s84, s85, s86, s87, s88, s89, s90, s91, s92, s93, s94, s95, s96, s97, s98, s99, s100, s101, s102, s103, s104, s105, s106, s107, s108, s109, s110, s111, s112, s113, s114, s115, s116, s117, s118], []⟩ wr := by
  rw [hx] at hf
  have HNO := Lib.hid (exF_no hx)
  have HF : Hid (Calls Try.prog 19 #[.pointer (some ⟨g, 0, none⟩), .string s] wr fun e w' => e = .returned (.tuple #[.agg #[.string ⟨#[]⟩, .int .i64 0, .int .i64 0], .bool false]) ∧ Below wr.heap.size wr w') := Lib.hid hf
  have HB := Lib.hid hB
  have HXC := Lib.hid hxc
  have HR := Lib.hid hr
  clear hf hx hB hxc hr
  conv => arg 2; whnf
  dsimp only
  go_wp2_with fail
  with_reducible refine HF.out.mono ?_
  rintro e w2 ⟨rfl, hb2⟩
  obtain ⟨w3, hw3⟩ : ∃ w3, w3 = w2.alloc (.cells #[.string ⟨#[]⟩, .int .i64 0, .int .i64 0] 53) := ⟨_, rfl⟩
  have HB3 : Hid (Below wr.heap.size wr w3) := Lib.hid (by rw [hw3]; exact hb2.alloc hb2.size _)
  have HE3 : Hid (Blk w3 w2.heap.size 53 #[.string ⟨#[]⟩, .int .i64 0, .int .i64 0]) := Lib.hid (by rw [hw3]; exact Blk.new w2 53 _)
  have HW3 := Lib.hid hw3
  clear hw3 hb2
  go_wp2_with fail
  rw [← HW3.out]
  go_loopw [15] (fun v15 wy => ∃ k : Nat, k ≤ n6 ∧ v15 = .int .i64 k ∧ Hid (wy = w3)) (fun v15 _ => n6 - (intOf v15).toNat)
  case atStart => exact ⟨0, by omega, rfl, Lib.hid rfl⟩
  case round =>
    obtain ⟨k, hk, rfl, HY⟩ := hrel
    have hy := HY.out
    subst hy
    have x6 : wr.cell? ⟨bx, 6, none⟩ = some (.slice A6 n6 c6) := (HB3.out.cell (p := ⟨bx, 6, none⟩) hbx).trans HXC.out
    by_cases hlt : k < n6
    · have hrw := HR.out.below ex_stay HB3.out
      obtain ⟨b, off, rfl, hbl, hat⟩ := hrw.2.2 (by omega)
      have y0 := (hat k hlt).1
      have hcn : n6 ≤ c6 := hrw.1
      have hcm : c6 ≤ 9223372036854775807 := hrw.2.1
      have hts := HNO.out k (by omega) (by omega)
      obtain ⟨t, ht⟩ : ∃ t, t = (X6 k).nm := ⟨_, rfl⟩
      rw [← ht] at y0 hts
      have hc1 : (t.toList == s.toList) = false := by rw [str_eq]; simp [hts]
      clear ht hts hat hrw
      go_wp2
      go_roundw
      case rel => exact ⟨k + 1, by omega, by go_num, Lib.hid (by trivial)⟩
      case measure => simp [intOf]; omega
    · obtain rfl : n6 = k := by omega
      have z0 := HE3.out.cell 0
      have z1 := HE3.out.cell 1
      have z2 := HE3.out.cell 2
      go_wp2
      go_ret
      exact ⟨rfl, HB.out.trans (HB3.out.mono HB.out.size)⟩
set_option maxHeartbeats 4000000 in
set_option maxRecDepth 100000 in
theorem mf_some {w wr : World} {bx g : Nat} {A6 : Option Addr} {n6 c6 : Nat} {X6 : Nat → ExT} {s : ByteArray} {kk : Nat} (hx : exF X6 s n6 0 = some kk)
    (hB : Below w.heap.size w wr) (hxc : wr.cell? ⟨bx, 6, none⟩ = some (.slice A6 n6 c6)) (hbx : bx < wr.heap.size) (hr : Row 3 ExAt wr A6 n6 c6 X6) (hn : n6 ≤ 200)
    (hf : Calls Try.prog 19 #[.pointer (some ⟨g, 0, none⟩), .string s] wr fun e w' => e = .returned (fdv X6 (exF X6 s n6 0)) ∧ Below wr.heap.size wr w')
    (s0 s1 s4 s5 s6 s8 s9 s10 s11 s12 s13 s14 s15 s16 s17 s18 s19 s20 s21 s22 s23 s24 s25 s26 s27 s28 s29 s30 s31 s32 s33 s34 s35 s36 s37 s38 s39 s40 s41 s42 s43 s44 s45 s46 s47 s48 s49 s50 s51 s52 s53 s54 s55 s56 s57 s58 s59 s60 s61 s62 s63 s64 s65 s66 s67 s68 s69 s70 s71 s72 s73 s74 s75 s76 s77 s78 s79 s80 s81 s82 s83 s84 s85 s86 s87 s88 s89 s90 s91 s92 s93 s94 s95 s96 s97 s98 s99 s100 s101 s102 s103 s104 s105 s106 s107 s108 s109 s110 s111 s112 s113 s114 s115 s116 s117 s118 : Value) : Code.wp Try.prog (mfCode 16) (bodyPost Try.prog Try.f3 fun e w' => e = .returned (.bool true) ∧ Below w.heap.size w w') ⟨#[s0, s1, .string s, .pointer (some ⟨bx, 0, none⟩), s4, s5, s6, .pointer (some ⟨g, 0, none⟩), s8, s9, s10, s11, s12, s13, s14, s15, s16, s17, s18, s19, s20, s21, s22, s23, s24, s25, s26, s27, s28, s29, s30, s31, s32, s33, s34, s35, s36, s37, s38, s39, s40, s41, s42, s43, s44, s45, s46, s47, s48, s49, s50, s51, s52, s53, s54, s55, s56, s57, s58, s59, s60, s61, s62, s63, s64, s65, s66, s67, s68, s69, s70, s71, s72, s73, s74, s75, s76, s77, s78, s79, s80, s81, s82, s83, s84, s85, s86, s87, s88, s89, s90, s91, s92, s93, s94, s95, s96, s97, s98, s99, s100, s101, s102, s103, s104, s105, s106, s107, s108, s109, s110, s111, s112, s113, s114, s115, s116, s117, s118], []⟩ wr := by
  rw [hx] at hf
  obtain ⟨_, hkn, hnm, hno⟩ := exF_lt hx
  have hkn : kk < n6 := by omega
  have HNO := Lib.hid hno
  have HNM := Lib.hid hnm
  obtain ⟨ek, hek⟩ : ∃ v, v = (X6 kk).kd := ⟨_, rfl⟩
  obtain ⟨ei, hei⟩ : ∃ v, v = (X6 kk).ix := ⟨_, rfl⟩
  have HF : Hid (Calls Try.prog 19 #[.pointer (some ⟨g, 0, none⟩), .string s] wr fun e w' => e = .returned (.tuple #[.agg #[.string s, .int .i64 ek, .int .i64 ei], .bool true]) ∧ Below wr.heap.size wr w') := Lib.hid (by rw [hek, hei, ← hnm]; rw [← hnm] at hf; exact hf)
  have HEK := Lib.hid (And.intro hek hei)
  have HB := Lib.hid hB
  have HXC := Lib.hid hxc
  have HR := Lib.hid hr
  clear hf hx hB hxc hr hnm hno hek hei
  conv => arg 2; whnf
  dsimp only
  go_wp2_with fail
  with_reducible refine HF.out.mono ?_
  rintro e w2 ⟨rfl, hb2⟩
  obtain ⟨w3, hw3⟩ : ∃ w3, w3 = w2.alloc (.cells #[.string s, .int .i64 ek, .int .i64 ei] 53) := ⟨_, rfl⟩
  have HB3 : Hid (Below wr.heap.size wr w3) := Lib.hid (by rw [hw3]; exact hb2.alloc hb2.size _)
  have HE3 : Hid (Blk w3 w2.heap.size 53 #[.string s, .int .i64 ek, .int .i64 ei]) := Lib.hid (by rw [hw3]; exact Blk.new w2 53 _)
  have HW3 := Lib.hid hw3
  clear hw3 hb2
  go_wp2_with fail
  rw [← HW3.out]
  go_loopw [15] (fun v15 wy => ∃ k : Nat, k ≤ kk ∧ v15 = .int .i64 k ∧ Hid (wy = w3)) (fun v15 _ => n6 - (intOf v15).toNat)
  case atStart => exact ⟨0, by omega, rfl, Lib.hid rfl⟩
  case round =>
    obtain ⟨k, hk, rfl, HY⟩ := hrel
    have hy := HY.out
    subst hy
    have x6 : wr.cell? ⟨bx, 6, none⟩ = some (.slice A6 n6 c6) := (HB3.out.cell (p := ⟨bx, 6, none⟩) hbx).trans HXC.out
    have hrw := HR.out.below ex_stay HB3.out
    obtain ⟨b, off, rfl, hbl, hat⟩ := hrw.2.2 (by omega)
    have hcn : n6 ≤ c6 := hrw.1
    have hcm : c6 ≤ 9223372036854775807 := hrw.2.1
    have hk6 : k < n6 := by omega
    by_cases hlt : k < kk
    · have y0 := (hat k hk6).1
      have hts := HNO.out k (by omega) hlt
      obtain ⟨t, ht⟩ : ∃ t, t = (X6 k).nm := ⟨_, rfl⟩
      rw [← ht] at y0 hts
      have hc1 : (t.toList == s.toList) = false := by rw [str_eq]; simp [hts]
      clear ht hts hat hrw
      go_wp2
      go_roundw
      case rel => exact ⟨k + 1, by omega, by go_num, Lib.hid (by trivial)⟩
      case measure => simp [intOf]; omega
    · obtain rfl : kk = k := by omega
      obtain ⟨y0, y1, y2⟩ := hat kk hk6
      rw [HNM.out] at y0
      rw [← HEK.out.1] at y1
      rw [← HEK.out.2] at y2
      have hc1 : (s.toList == s.toList) = true := by rw [str_eq]; simp
      have z0 := HE3.out.cell 0
      have z1 := HE3.out.cell 1
      have z2 := HE3.out.cell 2
      clear hat hrw
      go_wp2_with fail
      go_quiet (fail)
      go_wp2_with fail
      go_ret
      exact ⟨rfl, HB.out.trans ((below_drewN HB3.out _).mono HB.out.size)⟩
end Go.Proofs.Ytackompihengfaa
