/-
  A stack in memory; what it only reads: closed, place, has, Height, Room, get; and put.
-/
import Derived.Test.YthfdblpodnodcaaAi
namespace Go.Proofs.Ythfdblpodnodcaa
open Go.RowKit
set_option linter.unusedVariables false
def skC (a at_ cells h : Nat) : Array Value := #[.pointer (some ⟨a, 0, none⟩), .int .i64 at_, .int .i64 cells, .int .i64 h]
/-- a stack: its block s, its room in the arena, how many cells there may be, its height -/
structure SkI (w : World) (a bb rm gm : Nat) (d : Ad) (s at_ cells h : Nat) : Prop where
  are : Are w a bb rm gm d
  blk : Blk w s 79 (skC a at_ cells h)
  hh : h ≤ cells
  hc : cells ≤ 65536
  room : at_ + 8 * cells ≤ d.sz
section
variable {w : World} {a bb rm gm : Nat} {d : Ad} {s at_ cells h : Nat}
theorem SkI.drewN (H : SkI w a bb rm gm d s at_ cells h) (k : Nat) : SkI (w.drewN k) a bb rm gm d s at_ cells h := ⟨H.are.drewN k, H.blk.drewN k, H.hh, H.hc, H.room⟩
theorem SkI.sa (H : SkI w a bb rm gm d s at_ cells h) : s ≠ a := H.blk.ne_ H.are.blk (by decide)
theorem SkI.sb (H : SkI w a bb rm gm d s at_ cells h) : s ≠ bb := H.blk.ne_ H.are.byt (by decide)
set_option maxRecDepth 100000 in
theorem closed_no (H : Blk w s 79 (skC a at_ cells h)) : Calls Try.prog 38 #[.pointer (some ⟨s, 0, none⟩)] w fun e w' => e = .returned (.bool false) ∧ w = w' := by
  have c0 : w.cell? ⟨s, 0, none⟩ = some (.pointer (some ⟨a, 0, none⟩)) := H.cell 0
  clear H
  go_enter Try.func38, Try.ntmps38
  go_wp2
  go_ret
  exact ⟨rfl, rfl⟩
set_option maxRecDepth 100000 in
theorem closed_nil (w : World) : Calls Try.prog 38 #[.pointer none] w fun e w' => e = .returned (.bool true) ∧ w = w' := by
  go_enter Try.func38, Try.ntmps38
  go_wp2
  go_ret
  exact ⟨rfl, rfl⟩
def skZ : Array Value := #[.pointer none, .int .i64 0, .int .i64 0, .int .i64 0]
set_option maxRecDepth 100000 in
theorem closed_yes (H : Blk w s 79 skZ) : Calls Try.prog 38 #[.pointer (some ⟨s, 0, none⟩)] w fun e w' => e = .returned (.bool true) ∧ w = w' := by
  have c0 : w.cell? ⟨s, 0, none⟩ = some (.pointer none) := H.cell 0
  clear H
  go_enter Try.func38, Try.ntmps38
  go_wp2
  go_ret
  exact ⟨rfl, rfl⟩
set_option maxRecDepth 100000 in
theorem place_ok (H : SkI w a bb rm gm d s at_ cells h) (c : Nat) (hc : c ≤ cells) : Calls Try.prog 43 #[.pointer (some ⟨s, 0, none⟩), .int .i64 c] w fun e w' => e = .returned (.int .i64 ((at_ + 8 * c : Nat) : Int)) ∧ w = w' := by
  have c1 : w.cell? ⟨s, 1, none⟩ = some (.int .i64 at_) := H.blk.cell 1
  have h1 := H.hc
  have h2 := H.room
  have h3 := H.are.lim
  clear H
  go_enter Try.func43, Try.ntmps43
  go_wp2
  go_ret
  exact ⟨rfl, rfl⟩
set_option maxRecDepth 100000 in
theorem has_ok (H : SkI w a bb rm gm d s at_ cells h) (p n : Nat) (hp : p + n ≤ h) : Calls Try.prog 40 #[.pointer (some ⟨s, 0, none⟩), .int .i64 p, .int .i64 n] w fun e w' => e = .returned (.int .i64 0) ∧ w = w' := by
  have HC := Lib.hid (closed_no H.blk)
  have c3 : w.cell? ⟨s, 3, none⟩ = some (.int .i64 h) := H.blk.cell 3
  have h1 := H.hc
  have h2 := H.hh
  clear H
  go_enter Try.func40, Try.ntmps40
  go_wp2_with (go_at_call 38; refine HC.out.mono ?_; rintro e w' ⟨rfl, rfl⟩)
  go_ret
  exact ⟨rfl, rfl⟩
set_option maxRecDepth 100000 in
theorem has_no (H : SkI w a bb rm gm d s at_ cells h) (p n : Int) (hp1 : p ≤ 9223372036854775807) (hn1 : n ≤ 9223372036854775807) (hp : p < 0 ∨ (0 ≤ p ∧ n < 0) ∨ (0 ≤ p ∧ 0 ≤ n ∧ (h : Int) - p < n)) : Calls Try.prog 40 #[.pointer (some ⟨s, 0, none⟩), .int .i64 p, .int .i64 n] w fun e w' => e = .returned (.int .i64 2) ∧ w = w' := by
  have HC := Lib.hid (closed_no H.blk)
  have c3 : w.cell? ⟨s, 3, none⟩ = some (.int .i64 h) := H.blk.cell 3
  have h1 := H.hc
  have h2 := H.hh
  clear H
  rcases hp with hp | ⟨hp, hq⟩ | ⟨hp, hq, hr⟩
  all_goals
    go_enter Try.func40, Try.ntmps40
    go_wp2_with (go_at_call 38; refine HC.out.mono ?_; rintro e w' ⟨rfl, rfl⟩)
    go_ret
    exact ⟨rfl, rfl⟩
set_option maxRecDepth 100000 in
theorem has_nil (w : World) (p n : Int) : Calls Try.prog 40 #[.pointer none, .int .i64 p, .int .i64 n] w fun e w' => e = .returned (.int .i64 12) ∧ w = w' := by
  have HC := Lib.hid (closed_nil w)
  go_enter Try.func40, Try.ntmps40
  go_wp2_with (go_at_call 38; refine HC.out.mono ?_; rintro e w' ⟨rfl, rfl⟩)
  go_ret
  exact ⟨rfl, rfl⟩
set_option maxRecDepth 100000 in
theorem SkHeight_ok (H : Blk w s 79 (skC a at_ cells h)) : Calls Try.prog 23 #[.pointer (some ⟨s, 0, none⟩)] w fun e w' => e = .returned (.int .i64 h) ∧ w = w' := by
  have c0 : w.cell? ⟨s, 3, none⟩ = some (.int .i64 h) := H.cell 3
  clear H
  go_enter Try.func23, Try.ntmps23
  go_wp2
  go_ret
  exact ⟨rfl, rfl⟩
set_option maxRecDepth 100000 in
theorem SkHeight_shut (H : Blk w s 79 skZ) : Calls Try.prog 23 #[.pointer (some ⟨s, 0, none⟩)] w fun e w' => e = .returned (.int .i64 0) ∧ w = w' := by
  have c0 : w.cell? ⟨s, 3, none⟩ = some (.int .i64 0) := H.cell 3
  clear H
  go_enter Try.func23, Try.ntmps23
  go_wp2
  go_ret
  exact ⟨rfl, rfl⟩
set_option maxRecDepth 100000 in
theorem SkRoom_ok (H : SkI w a bb rm gm d s at_ cells h) : Calls Try.prog 24 #[.pointer (some ⟨s, 0, none⟩)] w fun e w' => e = .returned (.int .i64 ((cells - h : Nat) : Int)) ∧ ∃ k, w.drewN k = w' := by
  have c3 : w.cell? ⟨s, 3, none⟩ = some (.int .i64 h) := H.blk.cell 3
  have c2 : w.cell? ⟨s, 2, none⟩ = some (.int .i64 cells) := H.blk.cell 2
  have h1 := H.hc
  have h2 := H.hh
  have e : ((cells - h : Nat) : Int) = (cells : Int) - h := by omega
  rw [e]
  clear H e
  go_enter Try.func24, Try.ntmps24
  go_wp2
  go_quiet (fail)
  go_wp2
  go_ret
  exact ⟨rfl, _, rfl⟩
set_option maxRecDepth 100000 in
theorem get_ok (H : SkI w a bb rm gm d s at_ cells h) (c : Nat) (hc : c < cells) : Calls Try.prog 41 #[.pointer (some ⟨s, 0, none⟩), .int .i64 c] w fun e w' => e = .returned (.int .u64 ((wdN d.mem (at_ + 8 * c) 8 : Nat) : Int)) ∧ ∃ k, w.drewN k = w' := by
  have c0 : w.cell? ⟨s, 0, none⟩ = some (.pointer (some ⟨a, 0, none⟩)) := H.blk.cell 0
  have h1 := H.hc
  have h2 := H.room
  have HP := Lib.hid (fun k => place_ok (H.drewN k) c (by omega))
  have HG := Lib.hid (fun k => Get_ok a bb rm gm d (at_ + 8 * c) 8 (w.drewN k) (H.are.drewN k) (.inr rfl) (by omega))
  clear H
  go_enter Try.func41, Try.ntmps41
  go_wp2
  go_quiet (first | (go_at_call 43; exact quiet_left (HP.out _)) | (go_at_call 53; exact quiet_left (HG.out _)))
  go_wp2
  go_ret
  exact ⟨rfl, _, rfl⟩
def PtPost (a bb rm gm : Nat) (d : Ad) (s at_ cells h c v : Nat) (w : World) (e : Ending) (w' : World) : Prop :=
  e = .returned (.tuple #[]) ∧ SkI w' a bb rm gm (d.cpy (at_ + 8 * c) (leN v 8)) s at_ cells h ∧ Fr (· = bb) w w'
set_option maxHeartbeats 1000000 in
set_option maxRecDepth 100000 in
theorem put_ok (H : SkI w a bb rm gm d s at_ cells h) (c v : Nat) (hc : c < cells) (hv : v < 18446744073709551616) : Calls Try.prog 39 #[.pointer (some ⟨s, 0, none⟩), .int .i64 c, .int .u64 v] w (PtPost a bb rm gm d s at_ cells h c v w) := by
  have c0 : w.cell? ⟨s, 0, none⟩ = some (.pointer (some ⟨a, 0, none⟩)) := H.blk.cell 0
  have h1 := H.hc
  have h2 := H.room
  have HP := Lib.hid (fun k => place_ok (H.drewN k) c (by omega))
  have HG := Lib.hid (fun k => Put_ok a bb rm gm d (at_ + 8 * c) 8 v (w.drewN k) (H.are.drewN k) (.inr rfl) (by omega) hv)
  have HH := Lib.hid H
  clear H
  go_enter Try.func39, Try.ntmps39
  go_region_with (first
    | (go_at_call 43; refine (HP.out 1).mono ?_; rintro e w' ⟨rfl, rfl⟩)
    | (go_at_call 52; refine (HG.out 1).mono ?_; rintro e w' ⟨rfl, hA, hF⟩; have HA := Lib.hid hA; have HF := Lib.hid hF; clear hA hF))
  all_goals
    go_end0
    exact ⟨rfl, ⟨HA.out, HH.out.blk.fr HF.out.undrewN HH.out.sb, HH.out.hh, HH.out.hc, HH.out.room⟩, HF.out.undrewN⟩
end
end Go.Proofs.Ythfdblpodnodcaa
