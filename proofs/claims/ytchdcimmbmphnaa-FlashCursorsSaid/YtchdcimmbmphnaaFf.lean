/-
  Cursors: Part; a flash: Cursor, Reads, FailAt; the given example of the second layer (awake).
-/
import Derived.Test.YtchdcimmbmphnaaFe
namespace Go.Proofs.Ytchdcimmbmphnaa
open Go.RowKit
set_option linter.unusedVariables false
set_option maxHeartbeats 400000 in
set_option maxRecDepth 100000 in
theorem Part_bad (w : World) (f g c N : Nat) (l : List Nat) (r : Nat) (fa : Int) (fr t a : Nat) (n : Int) (h : St w f g c N l r fa fr t a) (hb : hs n ((t : Int) - (a : Int)) ≠ 0) :
    Calls Try.prog 33 #[.pointer (some ⟨c, 0, none⟩), .int .i64 n] w fun e w' => e = .returned (.tuple #[.pointer none, .int .i64 (hs n ((t : Int) - (a : Int)))]) ∧ ∃ k, w.drewN k = w' := by
  have HH := Lib.hid (has_any w c f fr t a n h.cu h.h2 (Nat.le_trans h.h3 h.fl.lim))
  clear h
  have hne : (hs n ((t : Int) - (a : Int)) != 0) = true := by rw [bne_iff_ne]; exact hb
  clear hb
  generalize hs n ((t : Int) - (a : Int)) = y at *
  go_enter Try.func33, Try.ntmps33
  go_wp2_with (go_at_call 47; refine HH.out.mono ?_; rintro e w' ⟨rfl, k, rfl⟩)
  go_ret2
  exact ⟨rfl, _, rfl⟩
theorem St.made {w : World} {f g c N : Nat} {l : List Nat} {r : Nat} {fa : Int} {fr t a : Nat} (h : St w f g c N l r fa fr t a) (o : Obj) : St (w.alloc o).drew f g c N l r fa fr t a :=
  ⟨⟨h.fl.blk.alloc o, h.fl.byt.alloc o, h.fl.len, h.fl.lim, h.fl.all⟩, h.cu.alloc o, h.h1, h.h2, h.h3⟩
def PaPost (f g c N : Nat) (l : List Nat) (r : Nat) (fa : Int) (fr t a n : Nat) (w : World) (e : Ending) (w' : World) : Prop :=
  ∃ p, e = .returned (.tuple #[.pointer (some ⟨p, 0, none⟩), .int .i64 0]) ∧ St w' f g c N l r fa fr t (a + n) ∧ Blk w' p 92 (cuC f a (a + n : Nat) a) ∧ w.heap.size ≤ p ∧ Fr (· = c) w w'
set_option maxHeartbeats 1000000 in
set_option maxRecDepth 100000 in
theorem Part_ok (w : World) (f g c N : Nat) (l : List Nat) (r : Nat) (fa : Int) (fr t a n : Nat) (h : St w f g c N l r fa fr t a) (hn : a + n ≤ t) :
    Calls Try.prog 33 #[.pointer (some ⟨c, 0, none⟩), .int .i64 n] w (PaPost f g c N l r fa fr t a n w) := by
  have HH := Lib.hid (has_any w c f fr t a n h.cu h.h2 (Nat.le_trans h.h3 h.fl.lim))
  rw [hs_ok (by omega) (by omega)] at HH
  have HS := Lib.hid h
  have hlim := Nat.le_trans h.h3 h.fl.lim
  clear h
  go_enter Try.func33, Try.ntmps33
  go_wp2_with (go_at_call 47; refine HH.out.mono ?_; rintro e W ⟨rfl, k, hk⟩; have HK := Lib.hid hk; have HS' : Hid (St W f g c N l r fa fr t a) := Lib.hid (by rw [← hk]; exact HS.out.drewN k); have c0 : W.cell? ⟨c, 0, none⟩ = some (.pointer (some ⟨f, 0, none⟩)) := HS'.out.cu.cell 0; have c3 : W.cell? ⟨c, 3, none⟩ = some (.int .i64 a) := HS'.out.cu.cell 3; have z3 := HS'.out.cu.frozen 3; clear hk)
  go_region
  all_goals
    go_wp2
    go_ret2
    have hmv := HS'.out.moved (a + n) (by have := HS'.out.h1; omega) hn
    rw [Int.natCast_add] at hmv
    have e : (W.setCell ⟨c, 3, none⟩ (.int .i64 ((a : Int) + (n : Int)))).heap.size = W.heap.size := by simp [World.setCell]
    have hnew := Blk.new (W.setCell ⟨c, 3, none⟩ (.int .i64 ((a : Int) + (n : Int)))) 92 (cuC f a ((a : Int) + (n : Int)) a)
    rw [e] at hnew
    have hfr : Fr (· = c) w W := by rw [← HK.out]; exact (Fr.refl _ _).drewN k
    have hsz := hfr.size
    exact ⟨W.heap.size, rfl, hmv.made _, by rw [Int.natCast_add]; exact hnew, hsz, ((hfr.set_ (p := ⟨c, 3, none⟩) rfl _).alloc _).drew⟩
set_option maxHeartbeats 400000 in
set_option maxRecDepth 100000 in
theorem Cursor_bad (w : World) (f g N : Nat) (l : List Nat) (r : Nat) (fa : Int) (a t : Int) (h : Fl w f g N l r fa) (hb : a < 0 ∨ (0 ≤ a ∧ t < a) ∨ (0 ≤ a ∧ a ≤ t ∧ N < t)) :
    Calls Try.prog 27 #[.pointer (some ⟨f, 0, none⟩), .int .i64 a, .int .i64 t] w fun e w' => e = .returned (.tuple #[.pointer none, .int .i64 2]) ∧ w = w' := by
  have c0 : w.cell? ⟨f, 0, none⟩ = some (.slice (some ⟨g, 0, none⟩) N N) := h.blk.cell 0
  clear h
  rcases hb with hb | ⟨h1, hb⟩ | ⟨h1, h2, hb⟩
  all_goals
    go_enter Try.func27, Try.ntmps27
    go_wp2
    go_ret2
    exact ⟨rfl, rfl⟩
set_option maxHeartbeats 400000 in
set_option maxRecDepth 100000 in
theorem Cursor_ok (w : World) (f g N : Nat) (l : List Nat) (r : Nat) (fa : Int) (a t : Nat) (h : Fl w f g N l r fa) (h1 : a ≤ t) (h2 : t ≤ N) :
    Calls Try.prog 27 #[.pointer (some ⟨f, 0, none⟩), .int .i64 a, .int .i64 t] w fun e w' => ∃ c, e = .returned (.tuple #[.pointer (some ⟨c, 0, none⟩), .int .i64 0]) ∧ St w' f g c N l r fa a t a ∧ w.heap.size ≤ c ∧ Below w.heap.size w w' := by
  have c0 : w.cell? ⟨f, 0, none⟩ = some (.slice (some ⟨g, 0, none⟩) N N) := h.blk.cell 0
  have HS : Hid (St (w.alloc (.cells (cuC f a t a) 92)) f g w.heap.size N l r fa a t a) := Lib.hid ⟨⟨h.blk.alloc _, h.byt.alloc _, h.len, h.lim, h.all⟩, Blk.new w 92 _, Nat.le_refl _, h1, h2⟩
  clear h
  go_enter Try.func27, Try.ntmps27
  go_wp2
  go_ret2
  exact ⟨w.heap.size, rfl, HS.out, Nat.le_refl _, (Below.refl _ _).alloc (Nat.le_refl _) _⟩
set_option maxHeartbeats 400000 in
set_option maxRecDepth 100000 in
theorem Reads_any (w : World) (f g N : Nat) (l : List Nat) (r : Nat) (fa : Int) (h : Fl w f g N l r fa) (hr : r < 1000000) :
    Calls Try.prog 38 #[.pointer (some ⟨f, 0, none⟩)] w fun e w' => e = .returned (.int .i64 r) ∧ w = w' := by
  have HL := Lib.hid (Load_any f 1 r w (h.blk.cell 1))
  clear h
  go_enter Try.func38, Try.ntmps38
  go_wp2_with (go_at_call 52; refine HL.out.mono ?_; rintro e w' ⟨rfl, rfl⟩)
  go_ret
  exact ⟨rfl, rfl⟩
set_option maxHeartbeats 400000 in
set_option maxRecDepth 100000 in
theorem FailAt_any (w : World) (f g N : Nat) (l : List Nat) (r : Nat) (fa n : Int) (h : Fl w f g N l r fa) :
    Calls Try.prog 36 #[.pointer (some ⟨f, 0, none⟩), .int .i64 n] w fun e w' => e = .returned (.tuple #[]) ∧ Fl w' f g N l r n ∧ Fr (· = f) w w' := by
  have c2 : w.cell? ⟨f, 2, none⟩ = some (.int .i64 fa) := h.blk.cell 2
  have z2 := h.blk.frozen 2
  have HF : Hid (Fl (w.setCell ⟨f, 2, none⟩ (.int .i64 n)) f g N l r n) := Lib.hid ⟨by have := h.blk.set_ 2 (.int .i64 n); exact this, h.byt.far (fun e => h.byt.ne_ h.blk (by decide) e) _, h.len, h.lim, h.all⟩
  clear h
  go_enter Try.func36, Try.ntmps36
  go_wp2
  go_end0
  exact ⟨rfl, HF.out, (Fr.refl (· = f) _).set_ (p := ⟨f, 2, none⟩) rfl _⟩
end Go.Proofs.Ytchdcimmbmphnaa
