/-
  What a stack holds; where it lies; the given example of the nineteenth layer (awake).
-/
import Derived.Test.YthfdblpodnodcaaTd
import Derived.BigGuard
namespace Go.Proofs.Ythfdblpodnodcaa
open Go.RowKit
set_option linter.unusedVariables false
/-- the cells below h are F's -/
def Con (d : Ad) (at_ h : Nat) (F : Nat → Nat) : Prop := ∀ j, j < h → wdN d.mem (at_ + 8 * j) 8 = F j
section
variable {d : Ad} {at_ h n p : Nat} {F f : Nat → Nat}
theorem Con.push (H : Con d at_ h F) (hl : at_ + 8 * (h + n) ≤ d.mem.length) (hf : ∀ j, j < n → f j = F (h + j)) (h64 : ∀ j, j < n → f j < 18446744073709551616) : Con (d.pus (at_ + 8 * h) f n) at_ (h + n) F := by
  intro j hj
  show wdN (psh 8 d.mem (at_ + 8 * h) f n) (at_ + 8 * j) 8 = F j
  by_cases q : j < h
  · rw [psh_far n (by omega) (.inl (by omega))]
    exact H j q
  · obtain ⟨i, rfl⟩ : ∃ i, j = h + i := ⟨j - h, by omega⟩
    rw [show at_ + 8 * (h + i) = at_ + 8 * h + 8 * i by omega, psh_in n (by omega) (by omega), Nat.mod_eq_of_lt (h64 i (by omega))]
    exact hf i (by omega)
theorem Con.low (H : Con d at_ h F) {h' : Nat} (hh : h' ≤ h) : Con d at_ h' F := fun j hj => H j (by omega)
theorem Con.far (H : Con d at_ h F) (hl : p + 8 * n ≤ d.mem.length) (hp : p + 8 * n ≤ at_ ∨ at_ + 8 * h ≤ p) : Con (d.pus p f n) at_ h F := by
  intro j hj
  show wdN (psh 8 d.mem p f n) (at_ + 8 * j) 8 = F j
  rw [psh_far n hl (by omega)]
  exact H j hj
theorem Con.cong (H : Con d at_ h F) {G : Nat → Nat} (e : ∀ j, j < h → F j = G j) : Con d at_ h G := fun j hj => (H j hj).trans (e j hj)
theorem Con.set (H : Con d at_ h F) {c v : Nat} (hc : c < h) (hl : at_ + 8 * h ≤ d.mem.length) (hv : v < 18446744073709551616) : Con (d.cpy (at_ + 8 * c) (leN v 8)) at_ h (fun j => if j = c then v else F j) := by
  intro j hj
  show wdN (putM d.mem (at_ + 8 * c) (leN v 8)) (at_ + 8 * j) 8 = if j = c then v else F j
  by_cases e : j = c
  · subst e
    rw [if_pos rfl, wdN_put v (by omega), Nat.mod_eq_of_lt hv]
  · rw [if_neg e, wdN_far (by rw [leN_len]; omega) (by rw [leN_len]; omega)]
    exact H j hj
/-- unwound -/
theorem Con.unwind (H : Con d at_ h F) {c n : Nat} (hc : c + n ≤ h) (hl : at_ + 8 * h ≤ d.mem.length) : Con (d.cpy (at_ + 8 * c) ((d.mem.drop (at_ + 8 * (h - n))).take (8 * n))) at_ (c + n) (fun j => if j < c then F j else F (h - n + (j - c))) := by
  intro j hj
  show wdN (putM d.mem (at_ + 8 * c) ((d.mem.drop (at_ + 8 * (h - n))).take (8 * n))) (at_ + 8 * j) 8 = if j < c then F j else F (h - n + (j - c))
  by_cases e : j < c
  · rw [if_pos e, wdN_copy_low (by omega) (by omega) (by omega)]
    exact H j (by omega)
  · obtain ⟨i, rfl⟩ : ∃ i, j = c + i := ⟨j - c, by omega⟩
    rw [if_neg e, show at_ + 8 * (c + i) = at_ + 8 * c + 8 * i by omega, wdN_copy (by omega) (by omega) (by omega)]
    rw [show at_ + 8 * (h - n) + 8 * i = at_ + 8 * (h - n + (c + i - c)) by omega]
    exact H _ (by omega)
end
/-- what the call has made lies behind what was there; of that, nothing has changed -/
structure Lo (w wr : World) (bb s : Nat) : Prop where
  bel : Below w.heap.size w wr
  hb : w.heap.size ≤ bb
  hs : w.heap.size ≤ s
section
variable {w w1 w2 : World} {bb s : Nat}
theorem Lo.step (H : Lo w w1 bb s) (hf : Fr (fun k => k = bb ∨ k = s) w1 w2) : Lo w w2 bb s :=
  ⟨hf.below H.bel H.bel.size (fun k hk => by rcases hk with rfl | rfl; exact H.hb; exact H.hs), H.hb, H.hs⟩
theorem Lo.stepS (H : Lo w w1 bb s) (hf : Fr (· = s) w1 w2) : Lo w w2 bb s := H.step (hf.more fun k q => .inr q)
theorem Lo.stepB (H : Lo w w1 bb s) (hf : Fr (· = bb) w1 w2) : Lo w w2 bb s := H.step (hf.more fun k q => .inl q)
theorem Lo.mv (H : Lo w w1 bb s) (hb : Below w1.heap.size w1 w2) : Lo w w2 bb s := ⟨H.bel.trans (hb.mono H.bel.size), H.hb, H.hs⟩
theorem Lo.drewN (H : Lo w w1 bb s) (k : Nat) : Lo w (w1.drewN k) bb s := ⟨⟨H.bel.os, H.bel.tape, H.bel.output, H.bel.size, H.bel.block⟩, H.hb, H.hs⟩
end
theorem below_alloc (w : World) (o : Obj) : Below w.heap.size w (w.alloc o) := (Below.refl _ _).alloc (Nat.le_refl _) o
/-- an arena that was made, and a stack in it -/
theorem lo_new {w w1 w2 : World} {a bb rm gm s : Nat} (b1 : Below w.heap.size w w1) (ha : w.heap.size ≤ a) (hb : w.heap.size ≤ bb) (hr : w.heap.size ≤ rm) (hg : w.heap.size ≤ gm) (hf : Fr (arb a bb rm gm) w1 w2) (hs : w1.heap.size ≤ s) : Lo w w2 bb s :=
  ⟨hf.below b1 b1.size (fun k hk => by rcases hk with rfl | rfl | rfl | rfl <;> assumption), hb, Nat.le_trans b1.size hs⟩
theorem wrd1 {w : World} {g v : Nat} (h : Blk w g 38 #[U64 v]) (hv : v < 18446744073709551616) : Wrd w (some ⟨g, 0, none⟩) 1 1 (fun _ => v) := by
  refine ⟨Nat.le_refl _, by decide, fun _ _ => hv, fun _ => ⟨g, 0, rfl, h.lt, fun j hj => ?_⟩⟩
  obtain rfl : j = 0 := by omega
  exact h.cell 0
theorem cl40 : cl (8 * ((5 : Nat) : Int)) = 64 := by decide
theorem SkI.len {w : World} {a bb rm gm s at_ cells h : Nat} {d : Ad} (H : SkI w a bb rm gm d s at_ cells h) : at_ + 8 * cells ≤ d.mem.length := by rw [H.are.len]; exact H.room
set_option maxHeartbeats 1000000 in
set_option maxRecDepth 100000 in
theorem awake19_any (w : World) : Calls Try.prog 12 #[] w fun e w' => e = .returned (.bool true) ∧ Below w.heap.size w w' := by
  go_enter Try.func12, Try.ntmps12
  go_wp2_with fail
  refine (ANew_ok 1000 _ (by omega)).mono ?_
  rintro e w1 ⟨a, bb, rm, gm, rfl, h1, b1, ha, hb, hr, hg⟩
  have HN := SkNew_ok h1 5 (by omega) (by omega) rfl (by rw [cl40]; show (64 : Nat) ≤ 1000; decide) (by show (0 : Nat) < 1000000; decide)
  unfold NkPost at HN
  have HN : Hid (Calls Try.prog 14 #[.pointer (some ⟨a, 0, none⟩), .int .i64 5] w1 _) := Lib.hid HN
  have B1 := Lib.hid (And.intro b1 (And.intro ha (And.intro hb (And.intro hr hg))))
  clear h1 b1 ha hb hr hg
  go_wp2_with (go_at_call 14; refine HN.out.mono ?_; rintro e w2 ⟨s, rfl, hs, hS, hF⟩; have HS2 := Lib.hid hS; have HL2 := Lib.hid (lo_new B1.out.1 B1.out.2.1 B1.out.2.2.1 B1.out.2.2.2.1 B1.out.2.2.2.2 hF hs); clear hs hS hF)
  have hA3 := HS2.out.below (below_alloc w2 (Obj.cells #[.int .u64 1, .int .u64 2, .int .u64 3] 38))
  have HP := Push_ok hA3 (some ⟨w2.heap.size, 0, none⟩) 3 3 (fun i => i + 1) ⟨by omega, by decide, fun i hi => by show i + 1 < 18446744073709551616; omega, fun _ => ⟨_, 0, rfl, (Blk.new w2 38 _).lt, fun j hj => by
    rcases (by omega : j = 0 ∨ j = 1 ∨ j = 2) with rfl | rfl | rfl
    · exact (Blk.new w2 38 #[.int .u64 1, .int .u64 2, .int .u64 3]).cell 0
    · exact (Blk.new w2 38 #[.int .u64 1, .int .u64 2, .int .u64 3]).cell 1
    · exact (Blk.new w2 38 #[.int .u64 1, .int .u64 2, .int .u64 3]).cell 2⟩⟩ (fun _ b off e => by injection e with e; injection e with e; rw [← e]; exact (Blk.new w2 38 _).ne_ hA3.are.byt (by decide)) (by omega)
  have HL3 := Lib.hid (HL2.out.mv (below_alloc w2 (Obj.cells #[.int .u64 1, .int .u64 2, .int .u64 3] 38)))
  refine HP.mono ?_
  rintro e w3 ⟨rfl, hS, hF⟩
  have HS4 := Lib.hid hS
  have HL4 := Lib.hid (HL3.out.step hF)
  have HU := Lib.hid (Unwind_ok hS 1 0 (by omega))
  clear hS hF HP hA3
  go_wp2_with (go_at_call 22; refine HU.out.mono ?_; rintro e w4 ⟨rfl, hS, hF⟩; have HS5 := Lib.hid hS; have HL5 := Lib.hid (HL4.out.step hF); have HO := Lib.hid (Pop_ok (h := 0) hS); clear hS hF)
  have e3 : ∀ (D : Ad), D.mem.length = 1000 → wdN ((D.pus (0 + 8 * 0) (fun i => i + 1) 3).cpy (0 + 8 * 0) ((((D.pus (0 + 8 * 0) (fun i => i + 1) 3).mem.drop (0 + 8 * (0 + 3 - 1))).take (8 * 1)))).mem (0 + 8 * 0) 8 = 3 := by
    intro D hD
    have hl : (psh 8 D.mem 0 (fun i => i + 1) 3).length = 1000 := by rw [psh_len 3 (by omega), hD]
    show wdN (putM (psh 8 D.mem 0 (fun i => i + 1) 3) 0 (((psh 8 D.mem 0 (fun i => i + 1) 3).drop 16).take 8)) (0 + 0) 8 = 3
    rw [wdN_copy (by omega) (by omega) (by omega)]
    exact (psh_in (W := 8) (p := 0) (j := 2) (mem := D.mem) (f := fun i => i + 1) 3 (by omega) (by omega))
  have hv := e3 (((nuA 1000).cut (cl (8 * ((5 : Nat) : Int)))).take (nuA 1000).height (cl (8 * ((5 : Nat) : Int)))) HS2.out.are.len
  have HO2 := HO.out
  unfold PpPost at HO2
  rw [show (nuA 1000).height = 0 from rfl] at HO2
  rw [show (nuA 1000).height = 0 from rfl] at hv
  rw [hv] at HO2
  refine HO2.mono ?_
  rintro e w5 ⟨rfl, hS, hF⟩
  have HH := Lib.hid (SkHeight_ok hS.blk)
  have HL6 := Lib.hid (HL5.out.stepS hF)
  clear hS hF HO2 hv e3
  go_wp2_with (go_at_call 23; refine HH.out.mono ?_; rintro e w' ⟨rfl, rfl⟩)
  go_ret
  exact ⟨rfl, HL6.out.bel⟩
end Go.Proofs.Ythfdblpodnodcaa
