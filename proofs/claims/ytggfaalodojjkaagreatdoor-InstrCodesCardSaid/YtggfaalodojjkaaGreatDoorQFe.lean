/-
  Cursors: Take where the read fails, Byte, Part; a flash: Cursor, Reads, Len, FailAt.
-/
import Derived.Test.YtggfaalodojjkaaGreatDoorQFd
namespace Go.Proofs.YtggfaalodojjkaaGreatDoor
open Go.RowKit
set_option linter.unusedVariables false
set_option maxHeartbeats 1000000 in
set_option maxRecDepth 100000 in
theorem Take_fail (w : World) (f g c N : Nat) (l : List Nat) (r : Nat) (fa : Int) (fr t a n : Nat) (h : St w f g c N l r fa fr t a) (hn : a + n ≤ t) (hr : r < 1000000) (hfa : 0 ≤ fa) (hfr : fa ≤ r) :
    Calls Tryz.prog 125 #[.pointer (some ⟨c, 0, none⟩), .int .i64 n] w fun e w' => e = .returned (.tuple #[.slice none 0 0, .int .i64 9]) ∧ St w' f g c N l (r + 1) fa fr t a ∧ Fr (FC f c) w w' := by
  have HH := Lib.hid (has_any w c f fr t a n h.cu h.h2 (Nat.le_trans h.h3 h.fl.lim))
  rw [hs_ok (by omega) (by omega)] at HH
  have c0 : w.cell? ⟨c, 0, none⟩ = some (.pointer (some ⟨f, 0, none⟩)) := h.cu.cell 0
  have c3 : w.cell? ⟨c, 3, none⟩ = some (.int .i64 a) := h.cu.cell 3
  have HR : Hid (∀ k, Calls Tryz.prog 145 #[.pointer (some ⟨f, 0, none⟩), .int .i64 a, .int .i64 n] (w.drewN k) fun e w' => e = .returned (.tuple #[.slice none 0 0, .int .i64 9]) ∧ Fl w' f g N l (r + 1) fa ∧ Fr (· = f) (w.drewN k) w') := Lib.hid (fun k => read_fail f g N l r fa a n (w.drewN k) (h.drewN k).fl hr hfa hfr)
  have HS := Lib.hid h
  clear h
  go_enter Tryz.func125, Tryz.ntmps125
  go_wp2_with (go_at_call 144; refine HH.out.mono ?_; rintro e W ⟨rfl, k, hk⟩; have HK := Lib.hid hk; clear hk)
  have c0' : W.cell? ⟨c, 0, none⟩ = some (.pointer (some ⟨f, 0, none⟩)) := by rw [← HK.out]; exact c0
  have c3' : W.cell? ⟨c, 3, none⟩ = some (.int .i64 a) := by rw [← HK.out]; exact c3
  have HR' : Hid (Calls Tryz.prog 145 #[.pointer (some ⟨f, 0, none⟩), .int .i64 a, .int .i64 n] W.drew fun e w' => e = .returned (.tuple #[.slice none 0 0, .int .i64 9]) ∧ Fl w' f g N l (r + 1) fa ∧ Fr (· = f) W.drew w') := Lib.hid (by
    rw [← HK.out]; exact HR.out (k + 1))
  have HS' : Hid (St W f g c N l r fa fr t a) := Lib.hid (by rw [← HK.out]; exact HS.out.drewN k)
  have HF0 : Hid (Fr (FC f c) w W) := Lib.hid (by rw [← HK.out]; exact (Fr.refl _ _).drewN k)
  clear c0 c3 HR HS HH
  go_region_with (go_at_call 145; refine HR'.out.mono ?_; rintro e w' ⟨rfl, hfl, hfr⟩; have hfr2 := hfr.undrew; have HFl := Lib.hid hfl; have HFr := Lib.hid hfr2; clear hfl hfr hfr2)
  all_goals
    go_wp2
    go_ret2
    have hcu := HS'.out.cu.fr HFr.out (fun e => HS'.out.fc e.symm)
    exact ⟨rfl, ⟨HFl.out, hcu, HS'.out.h1, HS'.out.h2, HS'.out.h3⟩, HF0.out.trans (HFr.out.more (fun k hk => .inl hk))⟩
set_option maxHeartbeats 400000 in
set_option maxRecDepth 100000 in
theorem Byte_bad (w : World) (f g c N : Nat) (l : List Nat) (r : Nat) (fa : Int) (fr t a : Nat) (h : St w f g c N l r fa fr t a) (hb : t ≤ a) :
    Calls Tryz.prog 97 #[.pointer (some ⟨c, 0, none⟩)] w fun e w' => e = .returned (.tuple #[.int .u8 0, .int .i64 3]) ∧ ∃ k, w.drewN k = w' := by
  have e3 : hs 1 ((t : Int) - (a : Int)) = 3 := by unfold hs; rw [if_neg (by omega), if_pos (by omega)]
  have HT := Lib.hid (Take_bad w f g c N l r fa fr t a 1 h (by rw [e3]; decide))
  rw [e3] at HT
  clear h
  go_enter Tryz.func97, Tryz.ntmps97
  go_wp2_with (go_at_call 125; refine HT.out.mono ?_; rintro e w' ⟨rfl, k, rfl⟩)
  go_ret2
  exact ⟨rfl, _, rfl⟩
set_option maxHeartbeats 400000 in
set_option maxRecDepth 100000 in
theorem Byte_fail (w : World) (f g c N : Nat) (l : List Nat) (r : Nat) (fa : Int) (fr t a : Nat) (h : St w f g c N l r fa fr t a) (hn : a < t) (hr : r < 1000000) (hfa : 0 ≤ fa) (hfr : fa ≤ r) :
    Calls Tryz.prog 97 #[.pointer (some ⟨c, 0, none⟩)] w fun e w' => e = .returned (.tuple #[.int .u8 0, .int .i64 9]) ∧ St w' f g c N l (r + 1) fa fr t a ∧ Fr (FC f c) w w' := by
  have HT := Lib.hid (Take_fail w f g c N l r fa fr t a 1 h hn hr hfa hfr)
  clear h
  go_enter Tryz.func97, Tryz.ntmps97
  go_wp2_with (go_at_call 125; refine HT.out.mono ?_; rintro e w' ⟨rfl, hst, hf⟩; have HS := Lib.hid hst; have HF := Lib.hid hf; clear hst hf)
  go_ret2
  exact ⟨rfl, HS.out, HF.out⟩
theorem byt_first {w : World} {b cp : Nat} {l : List Nat} {x : Nat} (h : Byt w (some ⟨b, 0, none⟩) 1 cp l) (hx : l.getD 0 0 = x) : w.cell? ⟨b, 0, none⟩ = some (.int .u8 x) := by
  obtain ⟨b', off, hA, _, hcell⟩ := h.2.2.2.2 (by omega)
  injection hA with hA
  injection hA with e1 e2 _
  have := hcell 0 (by omega)
  rw [← e1, ← e2, hx] at this
  exact this
set_option maxHeartbeats 400000 in
set_option maxRecDepth 100000 in
theorem Byte_ok (w : World) (f g c N : Nat) (l : List Nat) (r : Nat) (fa : Int) (fr t a : Nat) (h : St w f g c N l r fa fr t a) (hn : a < t) (hr : r < 1000000) (hfa : fa < 0 ∨ (0 ≤ fa ∧ (r : Int) < fa)) :
    Calls Tryz.prog 97 #[.pointer (some ⟨c, 0, none⟩)] w fun e w' => e = .returned (.tuple #[.int .u8 (l.getD a 0 : Nat), .int .i64 0]) ∧ St w' f g c N l (r + 1) fa fr t (a + 1) ∧ Fr (FC f c) w w' := by
  have HT := Lib.hid (Take_ok w f g c N l r fa fr t a 1 h hn hr hfa)
  have hel : Hid (((l.drop a).take 1).getD 0 0 = l.getD a 0) := Lib.hid (by
    rw [List.getD_eq_getElem?_getD, List.getD_eq_getElem?_getD, List.getElem?_take_of_lt (by omega), List.getElem?_drop]; rfl)
  clear h
  obtain ⟨x, hx⟩ : ∃ x, x = l.getD a 0 := ⟨_, rfl⟩
  rw [← hx] at hel ⊢
  clear hx
  go_enter Tryz.func97, Tryz.ntmps97
  go_wp2_with (go_at_call 125; refine HT.out.mono ?_; rintro e w' ⟨b, rfl, hby, hst, hf⟩; have HB := Lib.hid hby; have HS := Lib.hid hst; have HF := Lib.hid hf; have hcl : w'.cell? ⟨b, 0, none⟩ = some (.int .u8 x) := byt_first hby hel.out; clear hst hf hby)
  go_ret2
  exact ⟨rfl, HS.out, HF.out⟩
end Go.Proofs.YtggfaalodojjkaaGreatDoor
