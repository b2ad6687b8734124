/-
  Cursors: Take, Byte, Part; a flash: Cursor, Reads, Len, FailAt.
-/
import Derived.Test.YtggfaalodojjkaaGreatDoorQFc
namespace Go.Proofs.YtggfaalodojjkaaGreatDoor
open Go.RowKit
set_option linter.unusedVariables false
theorem Fr.undrew {S : Nat → Prop} {w w' : World} (h : Fr S w.drew w') : Fr S w w' := ⟨h.os, h.tape, h.output, h.size, h.block⟩
theorem Fr.undrewN {S : Nat → Prop} {w w' : World} {k : Nat} (h : Fr S (w.drewN k) w') : Fr S w w' := ⟨h.os, h.tape, h.output, h.size, h.block⟩
theorem Byt.far {w : World} {b n cap : Nat} {l : List Nat} (h : Byt w (some ⟨b, 0, none⟩) n cap l) {p : Addr} (hp : b ≠ p.block) (u : Value) : Byt (w.setCell p u) (some ⟨b, 0, none⟩) n cap l := by
  obtain ⟨hl, hx, hn, hcap, hc⟩ := h
  refine ⟨hl, hx, hn, hcap, fun h0 => ?_⟩
  obtain ⟨b', off, hA, hlt, hcell⟩ := hc h0
  refine ⟨b', off, hA, by simpa [World.setCell] using hlt, fun j hj => ?_⟩
  injection hA with hA
  injection hA with e1 e2 _
  rw [World.cell?_setCell_other _ _ _ _ (by intro e; apply hp; rw [e, e1])]
  exact hcell j hj
def FC (f c : Nat) (k : Nat) : Prop := k = f ∨ k = c
set_option maxHeartbeats 400000 in
set_option maxRecDepth 100000 in
theorem Take_bad (w : World) (f g c N : Nat) (l : List Nat) (r : Nat) (fa : Int) (fr t a : Nat) (n : Int) (h : St w f g c N l r fa fr t a) (hb : hs n ((t : Int) - (a : Int)) ≠ 0) :
    Calls Tryz.prog 125 #[.pointer (some ⟨c, 0, none⟩), .int .i64 n] w fun e w' => e = .returned (.tuple #[.slice none 0 0, .int .i64 (hs n ((t : Int) - (a : Int)))]) ∧ ∃ k, w.drewN k = w' := by
  have HH := Lib.hid (has_any w c f fr t a n h.cu h.h2 (Nat.le_trans h.h3 h.fl.lim))
  clear h
  have hne : (hs n ((t : Int) - (a : Int)) != 0) = true := by rw [bne_iff_ne]; exact hb
  clear hb
  generalize hs n ((t : Int) - (a : Int)) = y at *
  go_enter Tryz.func125, Tryz.ntmps125
  go_wp2_with (go_at_call 144; refine HH.out.mono ?_; rintro e w' ⟨rfl, k, rfl⟩)
  go_ret2
  exact ⟨rfl, _, rfl⟩
theorem hs_ok {n left : Int} (h1 : 0 ≤ n) (h2 : n ≤ left) : hs n left = 0 := by unfold hs; rw [if_neg (by omega), if_neg (by omega)]
def TkPost (f g c N : Nat) (l : List Nat) (r : Nat) (fa : Int) (fr t a n : Nat) (w : World) (e : Ending) (w' : World) : Prop :=
  ∃ b, e = .returned (.tuple #[.slice (some ⟨b, 0, none⟩) n n, .int .i64 0]) ∧ Byt w' (some ⟨b, 0, none⟩) n n ((l.drop a).take n) ∧ St w' f g c N l (r + 1) fa fr t (a + n) ∧ Fr (FC f c) w w'
set_option maxHeartbeats 1000000 in
set_option maxRecDepth 100000 in
theorem Take_ok (w : World) (f g c N : Nat) (l : List Nat) (r : Nat) (fa : Int) (fr t a n : Nat) (h : St w f g c N l r fa fr t a) (hn : a + n ≤ t) (hr : r < 1000000) (hfa : fa < 0 ∨ (0 ≤ fa ∧ (r : Int) < fa)) :
    Calls Tryz.prog 125 #[.pointer (some ⟨c, 0, none⟩), .int .i64 n] w (TkPost f g c N l r fa fr t a n w) := by
  have HH := Lib.hid (has_any w c f fr t a n h.cu h.h2 (Nat.le_trans h.h3 h.fl.lim))
  rw [hs_ok (by omega) (by omega)] at HH
  have c0 : w.cell? ⟨c, 0, none⟩ = some (.pointer (some ⟨f, 0, none⟩)) := h.cu.cell 0
  have c3 : w.cell? ⟨c, 3, none⟩ = some (.int .i64 a) := h.cu.cell 3
  have HR : Hid (∀ k, Calls Tryz.prog 145 #[.pointer (some ⟨f, 0, none⟩), .int .i64 a, .int .i64 n] (w.drewN k) (RdPost f g N l r fa a n (w.drewN k))) := Lib.hid (fun k => fread_ok f g N l r fa a n (w.drewN k) (h.drewN k).fl hr hfa (Nat.le_trans hn h.h3))
  have HS := Lib.hid h
  have hlim := Nat.le_trans h.h3 h.fl.lim
  clear h
  go_enter Tryz.func125, Tryz.ntmps125
  go_wp2_with (go_at_call 144; refine HH.out.mono ?_; rintro e W ⟨rfl, k, hk⟩; have HK := Lib.hid hk; clear hk)
  have c0' : W.cell? ⟨c, 0, none⟩ = some (.pointer (some ⟨f, 0, none⟩)) := by rw [← HK.out]; exact c0
  have c3' : W.cell? ⟨c, 3, none⟩ = some (.int .i64 a) := by rw [← HK.out]; exact c3
  have HR' : Hid (Calls Tryz.prog 145 #[.pointer (some ⟨f, 0, none⟩), .int .i64 a, .int .i64 n] W.drew (RdPost f g N l r fa a n W.drew)) := Lib.hid (by
    rw [← HK.out]; exact HR.out (k + 1))
  have HS' : Hid (St W f g c N l r fa fr t a) := Lib.hid (by rw [← HK.out]; exact HS.out.drewN k)
  have HF0 : Hid (Fr (FC f c) w W) := Lib.hid (by rw [← HK.out]; exact (Fr.refl _ _).drewN k)
  clear c0 c3 HR HS HH
  go_region_with (go_at_call 145; refine HR'.out.mono ?_; rintro e w' ⟨b, rfl, hby, hbl, hfl, hfr⟩; have HBy := Lib.hid hby; have HFl := Lib.hid hfl; have hfr2 := hfr.undrew; have HFr := Lib.hid hfr2; have HBb := Lib.hid hbl; have hcu := HS'.out.cu.fr hfr2 (fun e => HS'.out.fc e.symm); have c3w : w'.cell? ⟨c, 3, none⟩ = some (.int .i64 a) := hcu.cell 3; have z3w := hcu.frozen 3; have HCu := Lib.hid hcu; clear hby hbl hfl hfr hfr2 hcu)
  all_goals
    go_wp2
    go_ret2
    have hst : St w' f g c N l (r + 1) fa fr t a := ⟨HFl.out, HCu.out, HS'.out.h1, HS'.out.h2, HS'.out.h3⟩
    have hmv := hst.moved (a + n) (by have := HS'.out.h1; omega) hn
    have hcb : b ≠ c := by have := HS'.out.cu.lt; have := HBb.out; simp at this; omega
    have hfin : Fr (FC f c) w (w'.setCell ⟨c, 3, none⟩ (.int .i64 ((a + n : Nat) : Int))) := (HF0.out.trans (HFr.out.more (fun k hk => .inl hk))).set_ (p := ⟨c, 3, none⟩) (.inr rfl) _
    rw [Int.natCast_add] at hmv hfin
    exact ⟨b, rfl, HBy.out.far hcb _, hmv, hfin⟩
end Go.Proofs.YtggfaalodojjkaaGreatDoor
