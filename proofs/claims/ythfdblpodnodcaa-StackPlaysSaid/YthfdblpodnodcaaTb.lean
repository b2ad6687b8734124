/-
  A stack's Push, Pop, Get, Set.
-/
import Derived.Test.YthfdblpodnodcaaTa
namespace Go.Proofs.Ythfdblpodnodcaa
open Go.RowKit
set_option linter.unusedVariables false
def U64 (x : Nat) : Value := .int .u64 (x : Nat)
/-- a slice of words that reads as f -/
def Wrd (w : World) (A : Option Addr) (n cap : Nat) (f : Nat → Nat) : Prop :=
  n ≤ cap ∧ cap ≤ maxLen ∧ (∀ i, i < n → f i < 18446744073709551616) ∧ (0 < n → ∃ b off, A = some ⟨b, off, none⟩ ∧ b < w.heap.size ∧ ∀ j, j < n → w.cell? ⟨b, off + j, none⟩ = some (U64 (f j)))
def Ad.pus (d : Ad) (p : Nat) (f : Nat → Nat) (k : Nat) : Ad := { d with mem := psh 8 d.mem p f k }
theorem Ad.pus_succ (d : Ad) (p : Nat) (f : Nat → Nat) (k : Nat) : (d.pus p f k).cpy (p + 8 * k) (leN (f k) 8) = d.pus p f (k + 1) := rfl
section
variable {w : World} {a bb rm gm : Nat} {d : Ad} {s at_ cells h : Nat}
theorem SkI.cong {d' : Ad} {h' : Nat} (H : SkI w a bb rm gm d s at_ cells h) (e : d = d') (e2 : h = h') : SkI w a bb rm gm d' s at_ cells h' := by subst e; subst e2; exact H
/-- the height is set -/
theorem SkI.high {w' : World} {h' : Nat} (H : SkI w a bb rm gm d s at_ cells h) (hh : h' ≤ cells) (u : Value) (hu : u = .int .i64 h') (e : w' = w.setCell ⟨s, 3, none⟩ u) : SkI w' a bb rm gm d s at_ cells h' := by
  subst hu
  subst e
  have hf : Fr (· = s) w (w.setCell ⟨s, 3, none⟩ (.int .i64 h')) := (Fr.refl (· = s) w).set_ (p := ⟨s, 3, none⟩) rfl _
  refine ⟨H.are.fr hf ?_, H.blk.set_ 3 _, hh, H.hc, H.room⟩
  rintro k hk rfl
  rcases hk with q | q | q | q | ⟨c, hc, q⟩
  · exact H.sa q
  · exact H.sb q
  · obtain ⟨n, _, hi⟩ := H.are.rooms
    exact hi.ne_ H.blk q.symm
  · obtain ⟨n, _, hi⟩ := H.are.given
    exact hi.ne_ H.blk q.symm
  · obtain ⟨g, cap, cur, e, hg, _⟩ := H.are.row hc
    rw [e] at q
    simp only [Value.ownBlock, Option.some.injEq] at q
    subst q
    exact hg.ne_ H.blk (by decide) rfl
def PsPost (a bb rm gm : Nat) (d : Ad) (s at_ cells h n : Nat) (f : Nat → Nat) (w : World) (e : Ending) (w' : World) : Prop :=
  e = .returned (.int .i64 0) ∧ SkI w' a bb rm gm (d.pus (at_ + 8 * h) f n) s at_ cells (h + n) ∧ Fr (fun k => k = bb ∨ k = s) w w'
set_option maxHeartbeats 1000000 in
set_option maxRecDepth 100000 in
theorem Push_ok (H : SkI w a bb rm gm d s at_ cells h) (A : Option Addr) (n cap : Nat) (f : Nat → Nat) (hA : Wrd w A n cap f) (hne : 0 < n → ∀ b off, A = some ⟨b, off, none⟩ → b ≠ bb) (hn : h + n ≤ cells) :
    Calls Try.prog 17 #[.pointer (some ⟨s, 0, none⟩), .slice A n cap] w (PsPost a bb rm gm d s at_ cells h n f w) := by
  have HC := Lib.hid (closed_no H.blk)
  have HR := Lib.hid (SkRoom_ok H)
  have h1 := H.hc
  have h2 := H.room
  have h3 := H.hh
  have hcap : n ≤ cap := hA.1
  have hcap2 : cap ≤ 9223372036854775807 := hA.2.1
  have hcr : ((cells - h : Nat) : Int) = (cells : Int) - h := by omega
  rw [hcr] at HR
  have HH := Lib.hid H
  have HA := Lib.hid hA
  have HN := Lib.hid hne
  clear H hA hne hcr
  go_enter Try.func17, Try.ntmps17
  go_wp2_with (first
    | (go_at_call 38; refine HC.out.mono ?_; rintro e w' ⟨rfl, rfl⟩)
    | (go_at_call 24; refine HR.out.mono ?_; rintro e w' ⟨rfl, kq, rfl⟩))
  go_loopw [5, 6, 16] (fun v5 v6 v16 wr => ∃ k : Nat, k ≤ n ∧ v16 = .int .i64 k ∧ Hid (SkI wr a bb rm gm (d.pus (at_ + 8 * h) f k) s at_ cells h) ∧ Hid (Fr (· = bb) w wr)) (fun _ _ v16 _ => n - (intOf v16).toNat)
  case atStart => exact ⟨0, Nat.zero_le _, rfl, Lib.hid (HH.out.drewN _), Lib.hid ((Fr.refl _ _).drewN _)⟩
  case round =>
    obtain ⟨k, hk, rfl, HQ, HF⟩ := hrel
    have c3 : wr.cell? ⟨s, 3, none⟩ = some (.int .i64 h) := HQ.out.blk.cell 3
    have z3 : wr.frozen? ⟨s, 3, none⟩ = false := HQ.out.blk.frozen 3
    by_cases hlt : k < n
    · obtain ⟨b, off, rfl, hb, hcell⟩ := HA.out.2.2.2 (by omega)
      have hbn := HN.out (by omega) b off rfl
      have hfk := HA.out.2.2.1 k hlt
      have hc : wr.cell? ⟨b, off + k, none⟩ = some (.int .u64 ((f k : Nat) : Int)) := (World.cell?_of_block (HF.out.block b hb hbn)).trans (hcell k hlt)
      have HP := put_ok HQ.out (h + k) (f k) (by omega) hfk
      unfold PtPost at HP
      rw [show at_ + 8 * (h + k) = at_ + 8 * h + 8 * k by omega, Ad.pus_succ, Int.natCast_add] at HP
      have HP := Lib.hid HP
      obtain ⟨y, ey⟩ : ∃ y, y = f k := ⟨_, rfl⟩
      rw [← ey] at hc HP
      clear hb hbn hfk hcell ey
      go_wp2_with (go_at_call 39; refine HP.out.mono ?_; rintro e w2 ⟨rfl, hS, hF⟩; have HS := Lib.hid hS; have HF2 := Lib.hid hF; clear hS hF)
      exact ⟨⟨k + 1, by omega, by go_num, HS, Lib.hid (HF.out.trans HF2.out)⟩, by simp [intOf]; omega⟩
    · obtain rfl : n = k := by omega
      go_wp2
      go_ret
      exact ⟨rfl, HQ.out.high (by omega) _ (by rw [Int.natCast_add]) rfl, (HF.out.more (fun k q => .inl q)).set_ (p := ⟨s, 3, none⟩) (.inr rfl) _⟩
set_option maxRecDepth 100000 in
theorem Push_deep (H : SkI w a bb rm gm d s at_ cells h) (A : Option Addr) (n cap : Nat) (hA : n ≤ cap ∧ cap ≤ maxLen) (hn : cells < h + n) :
    Calls Try.prog 17 #[.pointer (some ⟨s, 0, none⟩), .slice A n cap] w fun e w' => e = .returned (.int .i64 11) ∧ ∃ k, w.drewN k = w' := by
  have HC := Lib.hid (closed_no H.blk)
  have HR := Lib.hid (SkRoom_ok H)
  have h1 := H.hc
  have h3 := H.hh
  have hcap2 : cap ≤ 9223372036854775807 := hA.2
  have hcap := hA.1
  have hcr : ((cells - h : Nat) : Int) = (cells : Int) - h := by omega
  rw [hcr] at HR
  clear H hA hcr
  go_enter Try.func17, Try.ntmps17
  go_wp2_with (first
    | (go_at_call 38; refine HC.out.mono ?_; rintro e w' ⟨rfl, rfl⟩)
    | (go_at_call 24; refine HR.out.mono ?_; rintro e w' ⟨rfl, kq, rfl⟩))
  go_ret
  exact ⟨rfl, _, rfl⟩
set_option maxRecDepth 100000 in
theorem Push_nil (w : World) (A : Option Addr) (n cap : Nat) : Calls Try.prog 17 #[.pointer none, .slice A n cap] w fun e w' => e = .returned (.int .i64 12) ∧ w = w' := by
  have HC := Lib.hid (closed_nil w)
  go_enter Try.func17, Try.ntmps17
  go_wp2_with (go_at_call 38; refine HC.out.mono ?_; rintro e w' ⟨rfl, rfl⟩)
  go_ret
  exact ⟨rfl, rfl⟩
set_option maxRecDepth 100000 in
theorem Push_shut (H : Blk w s 79 skZ) (A : Option Addr) (n cap : Nat) : Calls Try.prog 17 #[.pointer (some ⟨s, 0, none⟩), .slice A n cap] w fun e w' => e = .returned (.int .i64 12) ∧ w = w' := by
  have HC := Lib.hid (closed_yes H)
  clear H
  go_enter Try.func17, Try.ntmps17
  go_wp2_with (go_at_call 38; refine HC.out.mono ?_; rintro e w' ⟨rfl, rfl⟩)
  go_ret
  exact ⟨rfl, rfl⟩
def PpPost (a bb rm gm : Nat) (d : Ad) (s at_ cells h : Nat) (w : World) (e : Ending) (w' : World) : Prop :=
  e = .returned (.tuple #[.int .u64 ((wdN d.mem (at_ + 8 * h) 8 : Nat) : Int), .int .i64 0]) ∧ SkI w' a bb rm gm d s at_ cells h ∧ Fr (· = s) w w'
set_option maxHeartbeats 1000000 in
set_option maxRecDepth 100000 in
theorem Pop_ok (H : SkI w a bb rm gm d s at_ cells (h + 1)) : Calls Try.prog 18 #[.pointer (some ⟨s, 0, none⟩)] w (PpPost a bb rm gm d s at_ cells h w) := by
  have HH := Lib.hid (has_ok H 0 1 (by omega))
  have h1 := H.hc
  have h3 := H.hh
  have c3 : w.cell? ⟨s, 3, none⟩ = some (.int .i64 ((h : Int) + 1)) := H.blk.cell 3
  have z3 := H.blk.frozen 3
  have HS : Hid (SkI (w.setCell ⟨s, 3, none⟩ (.int .i64 h)) a bb rm gm d s at_ cells h) := Lib.hid (H.high (by omega) _ rfl rfl)
  have HG := Lib.hid (get_ok HS.out h (by omega))
  clear H
  have HH' : Hid (Calls Try.prog 40 #[.pointer (some ⟨s, 0, none⟩), .int .i64 0, .int .i64 1] w fun e w' => e = .returned (.int .i64 0) ∧ w = w') := HH
  clear HH
  go_enter Try.func18, Try.ntmps18
  go_wp2_with (first
    | (go_at_call 40; refine HH'.out.mono ?_; rintro e w' ⟨rfl, rfl⟩)
    | (go_at_call 41; refine HG.out.mono ?_; rintro e w' ⟨rfl, kq, rfl⟩))
  go_ret2
  exact ⟨rfl, HS.out.drewN _, ((Fr.refl (· = s) w).set_ (p := ⟨s, 3, none⟩) rfl _).drewN _⟩
set_option maxRecDepth 100000 in
theorem Pop_no (H : SkI w a bb rm gm d s at_ cells 0) : Calls Try.prog 18 #[.pointer (some ⟨s, 0, none⟩)] w fun e w' => e = .returned (.tuple #[.int .u64 0, .int .i64 2]) ∧ w = w' := by
  have HH := Lib.hid (has_no H 0 1 (by omega) (by omega) (.inr (.inr ⟨by omega, by omega, by omega⟩)))
  clear H
  go_enter Try.func18, Try.ntmps18
  go_wp2_with (go_at_call 40; refine HH.out.mono ?_; rintro e w' ⟨rfl, rfl⟩)
  go_ret2
  exact ⟨rfl, rfl⟩
set_option maxRecDepth 100000 in
theorem Pop_nil (w : World) : Calls Try.prog 18 #[.pointer none] w fun e w' => e = .returned (.tuple #[.int .u64 0, .int .i64 12]) ∧ w = w' := by
  have HH := Lib.hid (has_nil w 0 1)
  go_enter Try.func18, Try.ntmps18
  go_wp2_with (go_at_call 40; refine HH.out.mono ?_; rintro e w' ⟨rfl, rfl⟩)
  go_ret2
  exact ⟨rfl, rfl⟩
set_option maxHeartbeats 1000000 in
set_option maxRecDepth 100000 in
theorem SkGet_ok (H : SkI w a bb rm gm d s at_ cells h) (c : Nat) (hc : c < h) : Calls Try.prog 20 #[.pointer (some ⟨s, 0, none⟩), .int .i64 c] w fun e w' => e = .returned (.tuple #[.int .u64 ((wdN d.mem (at_ + 8 * c) 8 : Nat) : Int), .int .i64 0]) ∧ ∃ k, w.drewN k = w' := by
  have HH : Hid (Calls Try.prog 40 #[.pointer (some ⟨s, 0, none⟩), .int .i64 c, .int .i64 1] w fun e w' => e = .returned (.int .i64 0) ∧ w = w') := Lib.hid (has_ok H c 1 (by omega))
  have h1 := H.hc
  have h3 := H.hh
  have HG := Lib.hid (get_ok H c (by omega))
  clear H
  go_enter Try.func20, Try.ntmps20
  go_wp2_with (first
    | (go_at_call 40; refine HH.out.mono ?_; rintro e w' ⟨rfl, rfl⟩)
    | (go_at_call 41; refine HG.out.mono ?_; rintro e w' ⟨rfl, kq, rfl⟩))
  go_ret2
  exact ⟨rfl, _, rfl⟩
set_option maxRecDepth 100000 in
theorem SkGet_no (H : SkI w a bb rm gm d s at_ cells h) (c : Int) (hc2 : c ≤ 9223372036854775807) (hc : c < 0 ∨ (h : Int) ≤ c) : Calls Try.prog 20 #[.pointer (some ⟨s, 0, none⟩), .int .i64 c] w fun e w' => e = .returned (.tuple #[.int .u64 0, .int .i64 2]) ∧ w = w' := by
  have HH := Lib.hid (has_no H c 1 hc2 (by omega) (by omega))
  clear H
  go_enter Try.func20, Try.ntmps20
  go_wp2_with (go_at_call 40; refine HH.out.mono ?_; rintro e w' ⟨rfl, rfl⟩)
  go_ret2
  exact ⟨rfl, rfl⟩
set_option maxRecDepth 100000 in
theorem SkGet_nil (w : World) (c : Int) : Calls Try.prog 20 #[.pointer none, .int .i64 c] w fun e w' => e = .returned (.tuple #[.int .u64 0, .int .i64 12]) ∧ w = w' := by
  have HH := Lib.hid (has_nil w c 1)
  go_enter Try.func20, Try.ntmps20
  go_wp2_with (go_at_call 40; refine HH.out.mono ?_; rintro e w' ⟨rfl, rfl⟩)
  go_ret2
  exact ⟨rfl, rfl⟩
def StPost (a bb rm gm : Nat) (d : Ad) (s at_ cells h c v : Nat) (w : World) (e : Ending) (w' : World) : Prop :=
  e = .returned (.int .i64 0) ∧ SkI w' a bb rm gm (d.cpy (at_ + 8 * c) (leN v 8)) s at_ cells h ∧ Fr (· = bb) w w'
set_option maxHeartbeats 1000000 in
set_option maxRecDepth 100000 in
theorem SkSet_ok (H : SkI w a bb rm gm d s at_ cells h) (c v : Nat) (hc : c < h) (hv : v < 18446744073709551616) : Calls Try.prog 21 #[.pointer (some ⟨s, 0, none⟩), .int .i64 c, .int .u64 v] w (StPost a bb rm gm d s at_ cells h c v w) := by
  have HH : Hid (Calls Try.prog 40 #[.pointer (some ⟨s, 0, none⟩), .int .i64 c, .int .i64 1] w fun e w' => e = .returned (.int .i64 0) ∧ w = w') := Lib.hid (has_ok H c 1 (by omega))
  have h1 := H.hc
  have h3 := H.hh
  have HG := Lib.hid (put_ok H c v (by omega) hv)
  clear H
  go_enter Try.func21, Try.ntmps21
  go_wp2_with (first
    | (go_at_call 40; refine HH.out.mono ?_; rintro e w' ⟨rfl, rfl⟩)
    | (go_at_call 39; refine HG.out.mono ?_; rintro e w2 ⟨rfl, hS, hF⟩; have HS := Lib.hid hS; have HF2 := Lib.hid hF; clear hS hF))
  go_ret
  exact ⟨rfl, HS.out, HF2.out⟩
set_option maxRecDepth 100000 in
theorem SkSet_no (H : SkI w a bb rm gm d s at_ cells h) (c v : Int) (hc2 : c ≤ 9223372036854775807) (hc : c < 0 ∨ (h : Int) ≤ c) : Calls Try.prog 21 #[.pointer (some ⟨s, 0, none⟩), .int .i64 c, .int .u64 v] w fun e w' => e = .returned (.int .i64 2) ∧ w = w' := by
  have HH := Lib.hid (has_no H c 1 hc2 (by omega) (by omega))
  clear H
  go_enter Try.func21, Try.ntmps21
  go_wp2_with (go_at_call 40; refine HH.out.mono ?_; rintro e w' ⟨rfl, rfl⟩)
  go_ret
  exact ⟨rfl, rfl⟩
set_option maxRecDepth 100000 in
theorem SkSet_nil (w : World) (c v : Int) : Calls Try.prog 21 #[.pointer none, .int .i64 c, .int .u64 v] w fun e w' => e = .returned (.int .i64 12) ∧ w = w' := by
  have HH := Lib.hid (has_nil w c 1)
  go_enter Try.func21, Try.ntmps21
  go_wp2_with (go_at_call 40; refine HH.out.mono ?_; rintro e w' ⟨rfl, rfl⟩)
  go_ret
  exact ⟨rfl, rfl⟩
end
end Go.Proofs.Ythfdblpodnodcaa
