/-
  strconv's readers, conv's own readers.
-/
import Derived.Test.YtggfaalodojjkaaGreatDoorVKd
import Derived.Laws.EntriesVeiled
namespace Go.Proofs.YtggfaalodojjkaaGreatDoor
open Go.RowKit Go.ChangeShapes Go.WideShapes Go.ChangeAt
set_option linter.unusedVariables false
set_option linter.unusedSimpArgs false
/-- what strconv's readers tell: a number, or an error -/
def UP (o : Option Nat) (w : World) (e : Ending) (w' : World) : Prop :=
  ((∃ v : Nat, o = some v ∧ e = .returned (.tuple #[.int .u64 (v : Int), .nilIface])) ∨ (o = none ∧ ∃ (x : Int) (N : Nat), e = .returned (.tuple #[.int .u64 x, .iface 250 (.pointer (some ⟨N, 0, none⟩))]))) ∧ Below w.heap.size w w'
def SP (o : Option Int) (w : World) (e : Ending) (w' : World) : Prop :=
  ((∃ v : Int, o = some v ∧ e = .returned (.tuple #[.int .i64 v, .nilIface])) ∨ (o = none ∧ ∃ (x : Int) (N : Nat), -9223372036854775808 ≤ x ∧ x ≤ 9223372036854775807 ∧ e = .returned (.tuple #[.int .i64 x, .iface 250 (.pointer (some ⟨N, 0, none⟩))]))) ∧ Below w.heap.size w w'
def o10 (B : Nat) (s : List UInt8) : Option Nat := match Lib.parseUintB B s with | .ok u => some u | _ => none
def oI (B : Nat) (s : List UInt8) : Option Int := match Lib.parseIntB B s with | .ok u => some u | _ => none
theorem bs_dl (s : List UInt8) : (bs s).data.toList = s := by simp [bs]
theorem o10_facts (B : Nat) (hB : B = 32 ∨ B = 64) (s : List UInt8) : (∀ u, o10 B s = some u → (decide (Lib.decDigits u = s) = (rdB 10 (2 ^ B - 1) s).isSome) ∧ ∀ n, rdB 10 (2 ^ B - 1) s = some n → u = n) ∧ (o10 B s = none → rdB 10 (2 ^ B - 1) s = none) ∧ (∀ u, o10 B s = some u → u < 18446744073709551616) := by
  have h := pu10 B hB s
  unfold o10
  cases hp : Lib.parseUintB B s with
  | «syntax» => exact ⟨fun u e => (by cases e), fun _ => h.2 (fun u e => (by rw [hp] at e; cases e)), fun u e => (by cases e)⟩
  | range => exact ⟨fun u e => (by cases e), fun _ => h.2 (fun u e => (by rw [hp] at e; cases e)), fun u e => (by cases e)⟩
  | ok v =>
    refine ⟨fun u e => ?_, fun e => (by cases e), fun u e => ?_⟩
    · injection e with e; subst e; exact h.1 v hp
    · injection e with e; subst e
      unfold Lib.parseUintB at hp
      split at hp
      · cases hp
      · have := pm_le _ _ _ _ (Nat.zero_le _) hp
        have hM : 2 ^ B - 1 < 18446744073709551616 := by rcases hB with rfl | rfl <;> decide
        omega
theorem oI_facts (B : Nat) (hB : B = 32 ∨ B = 64) (s : List UInt8) : (∀ v, oI B s = some v → (decide (Lib.itoa v = s) = (rdI B s).isSome) ∧ (∀ n, rdI B s = some n → v = n) ∧ -(2 ^ (B - 1) : Nat) ≤ v ∧ v < (2 ^ (B - 1) : Nat)) ∧ (oI B s = none → rdI B s = none) := by
  unfold oI rdI
  cases hp : Lib.parseIntB B s with
  | «syntax» => exact ⟨fun u e => (by cases e), fun _ => rfl⟩
  | range => exact ⟨fun u e => (by cases e), fun _ => rfl⟩
  | ok v =>
    refine ⟨fun u e => ?_, fun e => (by cases e)⟩
    injection e with e; subst e
    refine ⟨?_, fun n hn => ?_, pi_range B hB s v hp⟩
    · by_cases q : Lib.itoa v = s
      · simp [q]
      · simp [q]
    · simp only [] at hn
      split at hn
      · injection hn
      · cases hn
theorem PU10_32 (s : List UInt8) (hs : s.length ≤ 100) (w : World) (hL : Lw w) : Calls Tryz.prog 137 #[.string (bs s), .int .i64 10, .int .i64 32] w (UP (o10 32 s) w) := by
  have hsz := bs_size s
  obtain ⟨te, pe, hes⟩ := hL.es.2
  obtain ⟨te', pe', her⟩ := hL.er.2
  unfold o10
  cases hp : Lib.parseUintB 32 s with
  | «syntax» =>
    refine (Tryz.strconv_ParseUint_10_at32_syntax (bs s) (by omega) (by rw [bs_dl]; exact hp) _ w hes (.inr ⟨te, pe, rfl⟩)).mono ?_
    rintro e w' ⟨N, rfl, _, _, hb⟩
    exact ⟨.inr ⟨rfl, _, N, rfl⟩, hb⟩
  | range =>
    refine (Tryz.strconv_ParseUint_10_at32_range (bs s) (by omega) (by rw [bs_dl]; exact hp) _ w her (.inr ⟨te', pe', rfl⟩)).mono ?_
    rintro e w' ⟨N, rfl, _, _, hb⟩
    exact ⟨.inr ⟨rfl, _, N, rfl⟩, hb⟩
  | ok v =>
    refine (Tryz.strconv_ParseUint_10_at32_ok (bs s) (by omega) v (by rw [bs_dl]; exact hp) w).mono ?_
    rintro e w' ⟨rfl, hw⟩
    refine ⟨.inl ⟨v, rfl, rfl⟩, ?_⟩
    rcases hw with rfl | rfl
    · exact Below.refl _ _
    · exact Lib_below _ _
theorem PI10_32 (s : List UInt8) (hs : s.length ≤ 100) (w : World) (hL : Lw w) : Calls Tryz.prog 138 #[.string (bs s), .int .i64 10, .int .i64 32] w (SP (oI 32 s) w) := by
  have hsz := bs_size s
  obtain ⟨te, pe, hes⟩ := hL.es.2
  obtain ⟨te', pe', her⟩ := hL.er.2
  unfold oI
  cases hp : Lib.parseIntB 32 s with
  | «syntax» =>
    refine (Tryz.strconv_ParseInt_10_at32_syntax (bs s) (by omega) (by rw [bs_dl]; exact hp) _ w hes (.inr ⟨te, pe, rfl⟩)).mono ?_
    rintro e w' ⟨N, rfl, _, _, hb⟩
    exact ⟨.inr ⟨rfl, _, N, by decide, by decide, rfl⟩, hb⟩
  | range =>
    refine (Tryz.strconv_ParseInt_10_at32_range (bs s) (by omega) (by rw [bs_dl]; exact hp) _ w her (.inr ⟨te', pe', rfl⟩)).mono ?_
    rintro e w' ⟨N, rfl, _, _, hb⟩
    exact ⟨.inr ⟨rfl, _, N, by unfold Lib.intSat; split <;> decide, by unfold Lib.intSat; split <;> decide, rfl⟩, hb⟩
  | ok v =>
    refine (Tryz.strconv_ParseInt_10_at32_ok (bs s) (by omega) v (by rw [bs_dl]; exact hp) w).mono ?_
    rintro e w' ⟨rfl, hw⟩
    refine ⟨.inl ⟨v, rfl, rfl⟩, ?_⟩
    rcases hw with rfl | ⟨t, rfl⟩
    · exact Below.refl _ _
    · exact Lib_below _ _
set_option maxHeartbeats 4000000 in
set_option maxRecDepth 100000 in
theorem IPU16e_32 (w : World) : Calls Tryz.prog 157 #[.string ⟨#[]⟩, .int .i64 16, .int .i64 32] w fun e w' => e = .returned (.tuple #[.int .u64 0, .iface 247 (.int .i64 2)]) ∧ w = w' := by
  go_enter Tryz.func157, Tryz.ntmps157
  go_wp2
  go_ret2
  exact ⟨rfl, rfl⟩
theorem IPU16a_32 (s : List UInt8) (hs : s.length ≤ 100) (w : World) : Calls Tryz.prog 157 #[.string (bs s), .int .i64 16, .int .i64 32] w (IP (puH 4294967295 s) w) := by
  by_cases h : s = []
  · subst h
    refine (IPU16e_32 w).mono ?_
    rintro e w' ⟨rfl, rfl⟩
    exact ⟨.inr ⟨rfl, 0, 2, .inr rfl, rfl⟩, Below.refl _ _⟩
  · exact IPU16_32 s hs h w
set_option maxHeartbeats 4000000 in
set_option maxRecDepth 100000 in
theorem PU16_32 (s : List UInt8) (hs : s.length ≤ 100) (w : World) (hL : Lw w) : Calls Tryz.prog 137 #[.string (bs s), .int .i64 16, .int .i64 32] w (UP (puH 4294967295 s) w) := by
  have hsz := bs_size s
  have HL := Lib.hid hL
  have I := Lib.hid (IPU16a_32 s hs w)
  generalize puH 4294967295 s = O at I
  have TE : Hid (∀ (W : World) (k : Int), (k = 1 ∨ k = 2) → Below w.heap.size w W → Calls Tryz.prog 158 #[.string ⟨#[80, 97, 114, 115, 101, 85, 105, 110, 116]⟩, .string (bs s), .int .i64 16, .int .i64 32, .iface 247 (.int .i64 k)] W fun e w' => (∃ N : Nat, e = .returned (.iface 250 (.pointer (some ⟨N, 0, none⟩)))) ∧ Below W.heap.size W w') := Lib.hid (fun W k hk hb => by
    have hLW := HL.out.below hb
    rcases hk with rfl | rfl
    · obtain ⟨te, pe, her⟩ := hLW.er.2
      refine (Tryz.strconv_toError_range _ (bs s) 16 32 _ W (by omega) her (.inr ⟨te, pe, rfl⟩)).mono ?_
      rintro e w' ⟨N, rfl, _, _, hb⟩
      exact ⟨⟨N, rfl⟩, hb⟩
    · obtain ⟨te, pe, hes⟩ := hLW.es.2
      refine (Tryz.strconv_toError_syntax _ (bs s) 16 32 _ W (by omega) hes (.inr ⟨te, pe, rfl⟩)).mono ?_
      rintro e w' ⟨N, rfl, _, _, hb⟩
      exact ⟨⟨N, rfl⟩, hb⟩)
  generalize bs s = S at I TE hsz
  clear hL hs hsz
  go_enter Tryz.func137, Tryz.ntmps137
  go_wp2_with fail
  refine I.out.mono ?_
  rintro e w1 ⟨ho, hb⟩
  have HB := Lib.hid hb
  clear hb
  rcases ho with ⟨v, rfl, rfl⟩ | ⟨rfl, x, k, hk, rfl⟩
  · go_wp2_with fail
    go_ret2
    exact ⟨.inl ⟨v, rfl, rfl⟩, HB.out⟩
  · have TEk := Lib.hid (TE.out w1 k hk HB.out)
    go_wp2_with fail
    refine TEk.out.mono ?_
    rintro e w2 ⟨⟨N, rfl⟩, hb⟩
    have HB2 := Lib.hid (HB.out.trans (hb.mono HB.out.size))
    clear hb
    go_wp2_with fail
    go_ret2
    exact ⟨.inr ⟨rfl, x, N, rfl⟩, HB2.out⟩
theorem PU10_64 (s : List UInt8) (hs : s.length ≤ 100) (w : World) (hL : Lw w) : Calls Tryz.prog 137 #[.string (bs s), .int .i64 10, .int .i64 64] w (UP (o10 64 s) w) := by
  have hsz := bs_size s
  obtain ⟨te, pe, hes⟩ := hL.es.2
  obtain ⟨te', pe', her⟩ := hL.er.2
  unfold o10
  cases hp : Lib.parseUintB 64 s with
  | «syntax» =>
    refine (Tryz.strconv_ParseUint_10_at64_syntax (bs s) (by omega) (by rw [bs_dl]; exact hp) _ w hes (.inr ⟨te, pe, rfl⟩)).mono ?_
    rintro e w' ⟨N, rfl, _, _, hb⟩
    exact ⟨.inr ⟨rfl, _, N, rfl⟩, hb⟩
  | range =>
    refine (Tryz.strconv_ParseUint_10_at64_range (bs s) (by omega) (by rw [bs_dl]; exact hp) _ w her (.inr ⟨te', pe', rfl⟩)).mono ?_
    rintro e w' ⟨N, rfl, _, _, hb⟩
    exact ⟨.inr ⟨rfl, _, N, rfl⟩, hb⟩
  | ok v =>
    refine (Tryz.strconv_ParseUint_10_at64_ok (bs s) (by omega) v (by rw [bs_dl]; exact hp) w).mono ?_
    rintro e w' ⟨rfl, hw⟩
    refine ⟨.inl ⟨v, rfl, rfl⟩, ?_⟩
    rcases hw with rfl | rfl
    · exact Below.refl _ _
    · exact Lib_below _ _
theorem PI10_64 (s : List UInt8) (hs : s.length ≤ 100) (w : World) (hL : Lw w) : Calls Tryz.prog 138 #[.string (bs s), .int .i64 10, .int .i64 64] w (SP (oI 64 s) w) := by
  have hsz := bs_size s
  obtain ⟨te, pe, hes⟩ := hL.es.2
  obtain ⟨te', pe', her⟩ := hL.er.2
  unfold oI
  cases hp : Lib.parseIntB 64 s with
  | «syntax» =>
    refine (Tryz.strconv_ParseInt_10_at64_syntax (bs s) (by omega) (by rw [bs_dl]; exact hp) _ w hes (.inr ⟨te, pe, rfl⟩)).mono ?_
    rintro e w' ⟨N, rfl, _, _, hb⟩
    exact ⟨.inr ⟨rfl, _, N, by decide, by decide, rfl⟩, hb⟩
  | range =>
    refine (Tryz.strconv_ParseInt_10_at64_range (bs s) (by omega) (by rw [bs_dl]; exact hp) _ w her (.inr ⟨te', pe', rfl⟩)).mono ?_
    rintro e w' ⟨N, rfl, _, _, hb⟩
    exact ⟨.inr ⟨rfl, _, N, by unfold Lib.intSat; split <;> decide, by unfold Lib.intSat; split <;> decide, rfl⟩, hb⟩
  | ok v =>
    refine (Tryz.strconv_ParseInt_10_at64_ok (bs s) (by omega) v (by rw [bs_dl]; exact hp) w).mono ?_
    rintro e w' ⟨rfl, hw⟩
    refine ⟨.inl ⟨v, rfl, rfl⟩, ?_⟩
    rcases hw with rfl | ⟨t, rfl⟩
    · exact Below.refl _ _
    · exact Lib_below _ _
set_option maxHeartbeats 4000000 in
set_option maxRecDepth 100000 in
theorem IPU16e_64 (w : World) : Calls Tryz.prog 157 #[.string ⟨#[]⟩, .int .i64 16, .int .i64 64] w fun e w' => e = .returned (.tuple #[.int .u64 0, .iface 247 (.int .i64 2)]) ∧ w = w' := by
  go_enter Tryz.func157, Tryz.ntmps157
  go_wp2
  go_ret2
  exact ⟨rfl, rfl⟩
theorem IPU16a_64 (s : List UInt8) (hs : s.length ≤ 100) (w : World) : Calls Tryz.prog 157 #[.string (bs s), .int .i64 16, .int .i64 64] w (IP (puH 18446744073709551615 s) w) := by
  by_cases h : s = []
  · subst h
    refine (IPU16e_64 w).mono ?_
    rintro e w' ⟨rfl, rfl⟩
    exact ⟨.inr ⟨rfl, 0, 2, .inr rfl, rfl⟩, Below.refl _ _⟩
  · exact IPU16_64 s hs h w
set_option maxHeartbeats 4000000 in
set_option maxRecDepth 100000 in
theorem PU16_64 (s : List UInt8) (hs : s.length ≤ 100) (w : World) (hL : Lw w) : Calls Tryz.prog 137 #[.string (bs s), .int .i64 16, .int .i64 64] w (UP (puH 18446744073709551615 s) w) := by
  have hsz := bs_size s
  have HL := Lib.hid hL
  have I := Lib.hid (IPU16a_64 s hs w)
  generalize puH 18446744073709551615 s = O at I
  have TE : Hid (∀ (W : World) (k : Int), (k = 1 ∨ k = 2) → Below w.heap.size w W → Calls Tryz.prog 158 #[.string ⟨#[80, 97, 114, 115, 101, 85, 105, 110, 116]⟩, .string (bs s), .int .i64 16, .int .i64 64, .iface 247 (.int .i64 k)] W fun e w' => (∃ N : Nat, e = .returned (.iface 250 (.pointer (some ⟨N, 0, none⟩)))) ∧ Below W.heap.size W w') := Lib.hid (fun W k hk hb => by
    have hLW := HL.out.below hb
    rcases hk with rfl | rfl
    · obtain ⟨te, pe, her⟩ := hLW.er.2
      refine (Tryz.strconv_toError_range _ (bs s) 16 64 _ W (by omega) her (.inr ⟨te, pe, rfl⟩)).mono ?_
      rintro e w' ⟨N, rfl, _, _, hb⟩
      exact ⟨⟨N, rfl⟩, hb⟩
    · obtain ⟨te, pe, hes⟩ := hLW.es.2
      refine (Tryz.strconv_toError_syntax _ (bs s) 16 64 _ W (by omega) hes (.inr ⟨te, pe, rfl⟩)).mono ?_
      rintro e w' ⟨N, rfl, _, _, hb⟩
      exact ⟨⟨N, rfl⟩, hb⟩)
  generalize bs s = S at I TE hsz
  clear hL hs hsz
  go_enter Tryz.func137, Tryz.ntmps137
  go_wp2_with fail
  refine I.out.mono ?_
  rintro e w1 ⟨ho, hb⟩
  have HB := Lib.hid hb
  clear hb
  rcases ho with ⟨v, rfl, rfl⟩ | ⟨rfl, x, k, hk, rfl⟩
  · go_wp2_with fail
    go_ret2
    exact ⟨.inl ⟨v, rfl, rfl⟩, HB.out⟩
  · have TEk := Lib.hid (TE.out w1 k hk HB.out)
    go_wp2_with fail
    refine TEk.out.mono ?_
    rintro e w2 ⟨⟨N, rfl⟩, hb⟩
    have HB2 := Lib.hid (HB.out.trans (hb.mono HB.out.size))
    clear hb
    go_wp2_with fail
    go_ret2
    exact ⟨.inr ⟨rfl, x, N, rfl⟩, HB2.out⟩
end Go.Proofs.YtggfaalodojjkaaGreatDoor
