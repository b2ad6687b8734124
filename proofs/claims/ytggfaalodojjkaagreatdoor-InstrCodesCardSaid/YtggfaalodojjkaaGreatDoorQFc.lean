/-
  Cursors: Left, At, has, Go, Take: what they answer, and what they leave.
-/
import Derived.Test.YtggfaalodojjkaaGreatDoorQFb
namespace Go.Proofs.YtggfaalodojjkaaGreatDoor
open Go.RowKit
set_option linter.unusedVariables false
/-- a cursor in block c, of the flash in block f, from fr up til t, at a -/
structure St (w : World) (f g c N : Nat) (l : List Nat) (r : Nat) (fa : Int) (fr t a : Nat) : Prop where
  fl : Fl w f g N l r fa
  cu : Blk w c 87 (cuC f fr t a)
  h1 : fr ≤ a
  h2 : a ≤ t
  h3 : t ≤ N
section
variable {w w' : World} {f g c N : Nat} {l : List Nat} {r : Nat} {fa : Int} {fr t a : Nat}
theorem St.drewN (h : St w f g c N l r fa fr t a) (k : Nat) : St (w.drewN k) f g c N l r fa fr t a := ⟨⟨h.fl.blk, h.fl.byt, h.fl.len, h.fl.lim, h.fl.all⟩, h.cu, h.h1, h.h2, h.h3⟩
theorem St.fc (h : St w f g c N l r fa fr t a) : f ≠ c := h.fl.blk.ne_ h.cu (by decide)
theorem St.gc (h : St w f g c N l r fa fr t a) : g ≠ c := h.fl.byt.ne_ h.cu (by decide)
theorem St.gf (h : St w f g c N l r fa fr t a) : g ≠ f := h.fl.byt.ne_ h.fl.blk (by decide)
theorem St.fr_ {S : Nat → Prop} (h : St w f g c N l r fa fr t a) (hf : Fr S w w') (h1 : ¬ S f) (h2 : ¬ S g) (h3 : ¬ S c) : St w' f g c N l r fa fr t a :=
  ⟨h.fl.fr hf h1 h2, h.cu.fr hf h3, h.h1, h.h2, h.h3⟩
theorem St.moved (h : St w f g c N l r fa fr t a) (b : Nat) (h1 : fr ≤ b) (h2 : b ≤ t) : St (w.setCell ⟨c, 3, none⟩ (.int .i64 (b : Nat))) f g c N l r fa fr t b :=
  ⟨⟨h.fl.blk.far h.fc _, h.fl.byt.far h.gc _, h.fl.len, h.fl.lim, h.fl.all⟩, by have := h.cu.set_ 3 (.int .i64 (b : Nat)); exact this, h1, h2, h.h3⟩
end
set_option maxHeartbeats 400000 in
set_option maxRecDepth 100000 in
theorem Left_any (w : World) (c f : Nat) (fr t a : Nat) (h : Blk w c 87 (cuC f fr t a)) (h1 : a ≤ t) (h2 : t ≤ 65536) :
    Calls Tryz.prog 21 #[.pointer (some ⟨c, 0, none⟩)] w fun e w' => e = .returned (.int .i64 ((t : Int) - (a : Int))) ∧ ∃ k, w.drewN k = w' := by
  have c2 : w.cell? ⟨c, 2, none⟩ = some (.int .i64 t) := h.cell 2
  have c3 : w.cell? ⟨c, 3, none⟩ = some (.int .i64 a) := h.cell 3
  clear h
  go_enter Tryz.func21, Tryz.ntmps21
  go_wp2
  go_quiet (fail)
  go_wp2
  go_ret
  exact ⟨rfl, _, rfl⟩
set_option maxHeartbeats 400000 in
set_option maxRecDepth 100000 in
theorem At_any (w : World) (c f : Nat) (fr t a : Nat) (h : Blk w c 87 (cuC f fr t a)) :
    Calls Tryz.prog 24 #[.pointer (some ⟨c, 0, none⟩)] w fun e w' => e = .returned (.int .i64 a) ∧ w = w' := by
  have c3 : w.cell? ⟨c, 3, none⟩ = some (.int .i64 a) := h.cell 3
  clear h
  go_enter Tryz.func24, Tryz.ntmps24
  go_wp2
  go_ret
  exact ⟨rfl, rfl⟩
def hs (n left : Int) : Int := if n < 0 then 1 else if left < n then 3 else 0
set_option maxHeartbeats 400000 in
set_option maxRecDepth 100000 in
theorem has_any (w : World) (c f : Nat) (fr t a : Nat) (n : Int) (h : Blk w c 87 (cuC f fr t a)) (h1 : a ≤ t) (h2 : t ≤ 65536) :
    Calls Tryz.prog 144 #[.pointer (some ⟨c, 0, none⟩), .int .i64 n] w fun e w' => e = .returned (.int .i64 (hs n ((t : Int) - (a : Int)))) ∧ ∃ k, w.drewN k = w' := by
  have HL := Lib.hid (Left_any w c f fr t a h h1 h2)
  clear h
  unfold hs
  by_cases n0 : n < 0
  · rw [if_pos n0]
    go_enter Tryz.func144, Tryz.ntmps144
    go_wp2_with (go_at_call 21; refine HL.out.mono ?_; rintro e w' ⟨rfl, k, rfl⟩)
    go_ret
    exact ⟨rfl, 0, rfl⟩
  · rw [if_neg n0]
    by_cases n1 : (t : Int) - (a : Int) < n
    · rw [if_pos n1]
      go_enter Tryz.func144, Tryz.ntmps144
      go_wp2_with (go_at_call 21; refine HL.out.mono ?_; rintro e w' ⟨rfl, k, rfl⟩)
      go_ret
      exact ⟨rfl, _, rfl⟩
    · rw [if_neg n1]
      go_enter Tryz.func144, Tryz.ntmps144
      go_wp2_with (go_at_call 21; refine HL.out.mono ?_; rintro e w' ⟨rfl, k, rfl⟩)
      go_ret
      exact ⟨rfl, _, rfl⟩
set_option maxHeartbeats 400000 in
set_option maxRecDepth 100000 in
theorem Go_yes (w : World) (c f : Nat) (fr t a : Nat) (n : Int) (h : Blk w c 87 (cuC f fr t a)) (h1 : fr ≤ n) (h2 : n ≤ t) :
    Calls Tryz.prog 22 #[.pointer (some ⟨c, 0, none⟩), .int .i64 n] w fun e w' => e = .returned (.int .i64 0) ∧ w.setCell ⟨c, 3, none⟩ (.int .i64 n) = w' := by
  have c1 : w.cell? ⟨c, 1, none⟩ = some (.int .i64 fr) := h.cell 1
  have c2 : w.cell? ⟨c, 2, none⟩ = some (.int .i64 t) := h.cell 2
  have c3 : w.cell? ⟨c, 3, none⟩ = some (.int .i64 a) := h.cell 3
  have z3 := h.frozen 3
  clear h
  go_enter Tryz.func22, Tryz.ntmps22
  go_wp2
  go_ret
  exact ⟨rfl, rfl⟩
set_option maxHeartbeats 400000 in
set_option maxRecDepth 100000 in
theorem Go_no (w : World) (c f : Nat) (fr t a : Nat) (n : Int) (h : Blk w c 87 (cuC f fr t a)) (h1 : n < fr ∨ (fr ≤ n ∧ t < n)) :
    Calls Tryz.prog 22 #[.pointer (some ⟨c, 0, none⟩), .int .i64 n] w fun e w' => e = .returned (.int .i64 2) ∧ w = w' := by
  have c1 : w.cell? ⟨c, 1, none⟩ = some (.int .i64 fr) := h.cell 1
  have c2 : w.cell? ⟨c, 2, none⟩ = some (.int .i64 t) := h.cell 2
  clear h
  rcases h1 with h1 | ⟨h1, h2⟩
  all_goals
    go_enter Tryz.func22, Tryz.ntmps22
    go_wp2
    go_ret
    exact ⟨rfl, rfl⟩
end Go.Proofs.YtggfaalodojjkaaGreatDoor
