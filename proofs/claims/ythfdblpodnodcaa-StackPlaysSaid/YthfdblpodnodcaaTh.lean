/-
  Two stacks in one arena; the walk of StackTwo.
-/
import Derived.Test.YthfdblpodnodcaaTg
import Derived.BigQuiet
namespace Go.Proofs.Ythfdblpodnodcaa
open Go.RowKit
set_option linter.unusedVariables false
/-- a stack stays, whatever is done in its arena without it -/
theorem SkI.other {w1 w2 : World} {a bb rm gm s at_ cells h : Nat} {d d' : Ad} {S : Nat → Prop} (H : SkI w1 a bb rm gm d s at_ cells h) (hA : Are w2 a bb rm gm d') (hf : Fr S w1 w2) (hs : ¬ S s) (hz : d'.sz = d.sz) : SkI w2 a bb rm gm d' s at_ cells h :=
  ⟨hA, H.blk.fr hf hs, H.hh, H.hc, by rw [hz]; exact H.room⟩
theorem SkI.not_arb {w1 : World} {a bb rm gm s at_ cells h : Nat} {d : Ad} (H : SkI w1 a bb rm gm d s at_ cells h) : ¬ arb a bb rm gm s := by
  rintro (q | q | q | q)
  · exact H.sa q
  · exact H.sb q
  · obtain ⟨n, _, hi⟩ := H.are.rooms
    exact hi.ne_ H.blk q.symm
  · obtain ⟨n, _, hi⟩ := H.are.given
    exact hi.ne_ H.blk q.symm
theorem cl64 : cl (8 * ((64 : Nat) : Int)) = 512 := by decide
/-- two stacks of 64 cells, side by side -/
structure Duo (w wr : World) (a bb rm gm s t : Nat) (d : Ad) (h1 h2 : Nat) (F G : Nat → Nat) : Prop where
  s1 : SkI wr a bb rm gm d s 0 64 h1
  s2 : SkI wr a bb rm gm d t 512 64 h2
  c1 : Con d 0 h1 F
  c2 : Con d 512 h2 G
  ne : s ≠ t
  l1 : Lo w wr bb s
  l2 : Lo w wr bb t
section
variable {w w1 w2 : World} {a bb rm gm s t h1 h2 : Nat} {d : Ad} {F G : Nat → Nat}
theorem Duo.push_s {v : Nat} (H : Duo w w1 a bb rm gm s t d h1 h2 F G) (hS : SkI w2 a bb rm gm (d.pus (0 + 8 * h1) (fun _ => v) 1) s 0 64 (h1 + 1)) (hF : Fr (fun k => k = bb ∨ k = s) w1 w2) (hv : v < 18446744073709551616) (e : v = F h1) : Duo w w2 a bb rm gm s t (d.pus (0 + 8 * h1) (fun _ => v) 1) (h1 + 1) h2 F G := by
  have hl := H.s2.len
  have hh := hS.hh
  have hh2 := H.s2.hh
  refine ⟨hS, H.s2.other hS.are hF ?_ rfl, ?_, ?_, H.ne, H.l1.step hF, ?_⟩
  · rintro (q | q)
    · exact H.s2.sb q
    · exact H.ne q.symm
  · exact H.c1.push (by omega) (fun j hj => by obtain rfl : j = 0 := (by omega); exact e) (fun _ _ => hv)
  · exact H.c2.far (by omega) (.inl (by omega))
  · exact ⟨hF.below H.l1.bel H.l1.bel.size (fun k hk => by rcases hk with rfl | rfl; exact H.l1.hb; exact H.l1.hs), H.l1.hb, H.l2.hs⟩
theorem Duo.push_t {v : Nat} (H : Duo w w1 a bb rm gm s t d h1 h2 F G) (hS : SkI w2 a bb rm gm (d.pus (512 + 8 * h2) (fun _ => v) 1) t 512 64 (h2 + 1)) (hF : Fr (fun k => k = bb ∨ k = t) w1 w2) (hv : v < 18446744073709551616) (e : v = G h2) : Duo w w2 a bb rm gm s t (d.pus (512 + 8 * h2) (fun _ => v) 1) h1 (h2 + 1) F G := by
  have hl := H.s2.len
  have hh := hS.hh
  have hh2 := H.s1.hh
  refine ⟨H.s1.other hS.are hF ?_ rfl, hS, ?_, ?_, H.ne, ?_, H.l2.step hF⟩
  · rintro (q | q)
    · exact H.s1.sb q
    · exact H.ne q
  · exact H.c1.far (by omega) (.inr (by omega))
  · exact H.c2.push (by omega) (fun j hj => by obtain rfl : j = 0 := (by omega); exact e) (fun _ _ => hv)
  · exact ⟨hF.below H.l2.bel H.l2.bel.size (fun k hk => by rcases hk with rfl | rfl; exact H.l1.hb; exact H.l2.hs), H.l1.hb, H.l1.hs⟩
theorem Duo.mv (H : Duo w w1 a bb rm gm s t d h1 h2 F G) (hb : Below w1.heap.size w1 w2) : Duo w w2 a bb rm gm s t d h1 h2 F G :=
  ⟨H.s1.below hb, H.s2.below hb, H.c1, H.c2, H.ne, H.l1.mv hb, H.l2.mv hb⟩
theorem Duo.cut_s {h : Nat} (H : Duo w w1 a bb rm gm s t d h1 h2 F G) (hS : SkI w2 a bb rm gm d s 0 64 h) (hF : Fr (· = s) w1 w2) (hh : h ≤ h1) : Duo w w2 a bb rm gm s t d h h2 F G :=
  ⟨hS, H.s2.other hS.are hF (fun q => H.ne q.symm) rfl, H.c1.low hh, H.c2, H.ne, H.l1.stepS hF, ⟨hF.below H.l2.bel H.l2.bel.size (fun k hk => by rw [hk]; exact H.l1.hs), H.l2.hb, H.l2.hs⟩⟩
theorem Duo.cut_t {h : Nat} (H : Duo w w1 a bb rm gm s t d h1 h2 F G) (hS : SkI w2 a bb rm gm d t 512 64 h) (hF : Fr (· = t) w1 w2) (hh : h ≤ h2) : Duo w w2 a bb rm gm s t d h1 h F G :=
  ⟨H.s1.other hS.are hF (fun q => H.ne q) rfl, hS, H.c1, H.c2.low hh, H.ne, ⟨hF.below H.l1.bel H.l1.bel.size (fun k hk => by rw [hk]; exact H.l2.hs), H.l1.hb, H.l1.hs⟩, H.l2.stepS hF⟩
end
/-- the two are made -/
theorem duo_new {w w1 w2 w3 : World} {a bb rm gm s t : Nat} {F G : Nat → Nat} (b1 : Below w.heap.size w w1) (ha : w.heap.size ≤ a) (hb : w.heap.size ≤ bb) (hr : w.heap.size ≤ rm) (hg : w.heap.size ≤ gm)
    (hs : w1.heap.size ≤ s) (hS : SkI w2 a bb rm gm (((nuA 2048).cut 512).take 0 512) s 0 64 0) (hF : Fr (arb a bb rm gm) w1 w2)
    (ht : w2.heap.size ≤ t) (hT : SkI w3 a bb rm gm (((((nuA 2048).cut 512).take 0 512).cut 512).take 512 512) t 512 64 0) (hF2 : Fr (arb a bb rm gm) w2 w3) :
    Duo w w3 a bb rm gm s t (((((nuA 2048).cut 512).take 0 512).cut 512).take 512 512) 0 0 F G := by
  have l1 := lo_new b1 ha hb hr hg hF hs
  have hlt := hS.blk.lt
  have hf := hF2.below l1.bel l1.bel.size (fun k hk => by rcases hk with rfl | rfl | rfl | rfl <;> assumption)
  exact ⟨hS.other hT.are hF2 hS.not_arb rfl, hT, fun j hj => by omega, fun j hj => by omega, by omega, ⟨hf, hb, l1.hs⟩, ⟨hf, hb, Nat.le_trans l1.bel.size ht⟩⟩
theorem SkNew64 {w : World} {a bb rm gm : Nat} (H : Are w a bb rm gm (nuA 2048)) : Calls Try.prog 14 #[.pointer (some ⟨a, 0, none⟩), .int .i64 64] w fun e w' => ∃ s, e = .returned (.tuple #[.pointer (some ⟨s, 0, none⟩), .int .i64 0]) ∧ w.heap.size ≤ s ∧ SkI w' a bb rm gm (((nuA 2048).cut 512).take 0 512) s 0 64 0 ∧ Fr (arb a bb rm gm) w w' := by
  have := SkNew_ok H 64 (by omega) (by omega) rfl (by rw [cl64]; show (512 : Nat) ≤ 2048; decide) (by show (0 : Nat) < 1000000; decide)
  unfold NkPost at this
  rw [cl64] at this
  exact this
theorem SkNew64' {w : World} {a bb rm gm : Nat} (H : Are w a bb rm gm (((nuA 2048).cut 512).take 0 512)) : Calls Try.prog 14 #[.pointer (some ⟨a, 0, none⟩), .int .i64 64] w fun e w' => ∃ s, e = .returned (.tuple #[.pointer (some ⟨s, 0, none⟩), .int .i64 0]) ∧ w.heap.size ≤ s ∧ SkI w' a bb rm gm (((((nuA 2048).cut 512).take 0 512).cut 512).take 512 512) s 512 64 0 ∧ Fr (arb a bb rm gm) w w' := by
  have := SkNew_ok H 64 (by omega) (by omega) rfl (by rw [cl64]; show (512 + 512 : Nat) ≤ 2048; decide) (by show (1 : Nat) < 1000000; decide)
  unfold NkPost at this
  rw [cl64] at this
  exact this
end Go.Proofs.Ythfdblpodnodcaa
