/-
  block.Store.Alloc.
-/
import Derived.Test.YtlnffcledpccjaaSc
import Derived.Laws.OwnMore
namespace Go.Proofs.Ytlnffcledpccjaa
open Go.RowKit
set_option linter.unusedVariables false
def zs (n : Nat) : List Nat := List.replicate n 0
/-- the lowest block that is free, L, is had; its bytes lie in G -/
def Sd.al (d : Sd) (L G : Nat) : Sd :=
  { d with taken := L + 1, peak := max d.peak (d.n + 1), n := d.n + 1, g := fun i => if i = L then G else d.g i, B := fun i => if i = L then some (zs d.size) else d.B i }
set_option maxHeartbeats 1000000 in
set_option maxRecDepth 100000 in
theorem Alloc_fault (s m : Nat) (d : Sd) (w : World) (h : Sto w s m d) (ho : d.ops < 1000000) (hf : d.fl = true) :
    Calls Try.prog 82 #[.pointer (some ⟨s, 0, none⟩)] w fun e w' => e = .returned (.tuple #[.int .i64 0, .int .i64 9]) ∧ Sto w' s m d.op ∧ Fr (· = s) w w' := by
  have HO := operate_any s m d w h ho
  rw [show d.e = 9 from by rw [Sd.e, hf]; rfl] at HO
  have HO := Lib.hid HO
  clear h hf
  go_enter Try.func82, Try.ntmps82
  go_wp2_with (first
    | (go_at_call 99; refine HO.out.mono ?_; rintro e w1 ⟨rfl, h1, h2⟩; have H1 := Lib.hid h1; have H2 := Lib.hid h2; clear h1 h2))
  go_ret2
  exact ⟨rfl, H1.out, H2.out⟩
set_option maxHeartbeats 1000000 in
set_option maxRecDepth 100000 in
theorem Alloc_full (s m : Nat) (d : Sd) (w : World) (h : Sto w s m d) (ho : d.ops < 1000000) (hf : d.fl = false) (hn : d.n = d.cap) :
    Calls Try.prog 82 #[.pointer (some ⟨s, 0, none⟩)] w fun e w' => e = .returned (.tuple #[.int .i64 0, .int .i64 8]) ∧ Sto w' s m d.op ∧ Fr (· = s) w w' := by
  have HO := operate_any s m d w h ho
  rw [show d.e = 0 from by rw [Sd.e, hf]; rfl] at HO
  have HO := Lib.hid HO
  have HN := Lib.hid hn
  clear h hf hn
  go_enter Try.func82, Try.ntmps82
  go_wp2_with (first
    | (go_at_call 99; refine HO.out.mono ?_; rintro e w1 ⟨rfl, h1, h2⟩; have H1 := Lib.hid h1; have H2 := Lib.hid h2; clear h1 h2))
  have c1 : w1.cell? ⟨s, 1, none⟩ = some (.int .i64 d.cap) := H1.out.blk.cell 1
  have c2 : w1.cell? ⟨s, 2, none⟩ = some (.map (some m)) := H1.out.blk.cell 2
  have hl : ∀ k ty, (Builtin.len_ #[85] ty #[.map (some m)]).run Try.prog (w1.drewN k) = .ok (.int .i64 d.cap) (w1.drewN k) := fun k ty => by
    rw [← HN.out]; exact (H1.out.im.drewN k).len Try.underlying85 ty
  go_quiet (fail)
  go_wp2
  go_ret2
  exact ⟨rfl, H1.out.drewN _, H2.out.drewN _⟩
theorem made_zs (n : Nat) : madeCells (Value.int .u8 0).cells n = ((zs n).map U8).toArray := by
  apply Array.ext'
  show (madeCells #[Value.int .u8 0] n).toList = _
  rw [toList_madeCells_one]
  simp [zs, U8, List.map_replicate]
theorem al_f (d : Sd) (L G : Nat) (j : Int) : (d.al L G).f j = if j = (L : Int) then some (.slice (some ⟨G, 0, none⟩) d.size d.size) else d.f j := by
  unfold Sd.f Sd.al
  by_cases h : 0 ≤ j
  · obtain ⟨k, rfl⟩ := Int.eq_ofNat_of_zero_le h
    rw [if_pos h, if_pos h, Int.toNat_natCast]
    by_cases e : k = L
    · subst e; simp
    · have : ¬ ((k : Int) = (L : Int)) := by omega
      simp only [if_neg e, if_neg this]
  · rw [if_neg h, if_neg h, if_neg (by omega)]
theorem Sto.al {w w5 : World} {s m L G : Nat} {d : Sd} (h : Sto w s m d) (hL : d.Low L) (hG : w.heap.size ≤ G) (hb : Blk w5 s 95 (stC m (d.al L G))) (hi : IM w5 Try.prog 3 m (d.n + 1) (d.al L G).f)
    (hc : Blk w5 G 5 ((zs d.size).map U8).toArray) (hf : Fr (fun k => k = s ∨ k = m) w w5) : Sto w5 s m (d.al L G) := by
  have hlt : ∀ i, (d.B i).isSome → d.g i < w.heap.size := fun i hi => h.mlt (.inr (.inr ⟨i, hi, rfl⟩))
  have hz : ∀ l, zs d.size = l → l.length = d.size ∧ (∀ x ∈ l, x < 256) := by
    rintro l rfl
    exact ⟨by simp [zs], fun x hx => by have := List.eq_of_mem_replicate hx; omega⟩
  refine ⟨hb, hi, ?_, ?_, h.lo, h.hi, h.capm, ?_, ?_, ?_, Nat.le_max_right _ _⟩
  · intro i l hl
    by_cases e : i = L
    · subst e
      simp only [Sd.al, if_pos] at hl ⊢
      injection hl with hl
      have := hz l hl
      subst hl
      exact ⟨this.1, this.2, hc⟩
    · simp only [Sd.al, if_neg e] at hl ⊢
      have := h.cont i l hl
      exact ⟨this.1, this.2.1, this.2.2.fr hf (by
        have hi : (d.B i).isSome := by rw [hl]; rfl
        rintro (q | q)
        · exact h.gs hi q
        · exact h.gm hi q)⟩
  · intro i j hi hj hij
    by_cases e : i = L <;> by_cases e' : j = L
    · omega
    · simp only [Sd.al, if_pos e, if_neg e'] at hj hij
      have := hlt j hj
      omega
    · simp only [Sd.al, if_pos e', if_neg e] at hi hij
      have := hlt i hi
      omega
    · simp only [Sd.al, if_neg e', if_neg e] at hi hj hij
      exact h.apart i j hi hj hij
  · intro i hi
    by_cases e : i = L
    · simp only [Sd.al, if_pos e]; rfl
    · simp only [Sd.al, if_neg e] at hi ⊢
      exact hL.2.1 i (by omega)
  · intro i hi
    by_cases e : i = L
    · have := hL.2.2
      simp only [Sd.al]
      omega
    · simp only [Sd.al, if_neg e] at hi ⊢
      exact h.dom i hi
  · show d.n + 1 = cnt (d.al L G).B d.cap
    rw [cnt_put d.B (d.al L G).B L (by rw [hL.1]; rfl) (by simp [Sd.al]) (fun i hi => by simp [Sd.al, hi]) d.cap hL.2.2, ← h.num]
theorem peak_int (p n : Nat) : (if (p : Int) < (n : Int) + 1 then (n : Int) + 1 else (p : Int)) = ((max p (n + 1) : Nat) : Int) := by
  split <;> omega
def AlPost (s m : Nat) (d : Sd) (w : World) (e : Ending) (w' : World) : Prop :=
  ∃ L G : Nat, e = .returned (.tuple #[.int .i64 L, .int .i64 0]) ∧ d.Low L ∧ w.heap.size ≤ G ∧ Sto w' s m (d.op.al L G) ∧ Fr (fun k => k = s ∨ k = m) w w'
set_option maxHeartbeats 2000000 in
set_option maxRecDepth 100000 in
theorem Alloc_ok (s m : Nat) (d : Sd) (w : World) (h : Sto w s m d) (ho : d.ops < 1000000) (hf : d.fl = false) (hn : d.n < d.cap) :
    Calls Try.prog 82 #[.pointer (some ⟨s, 0, none⟩)] w (AlPost s m d w) := by
  obtain ⟨i0, hi, hz0, hz1, hz2⟩ := info_parts info5
  have HO := operate_any s m d w h ho
  rw [show d.e = 0 from by rw [Sd.e, hf]; rfl] at HO
  have HO := Lib.hid HO
  have hne : ((d.n : Int) == (d.cap : Int)) = false := by simp; omega
  have hcapm := h.capm
  clear h hf
  go_enter Try.func82, Try.ntmps82
  go_wp2_with (first
    | (go_at_call 99; refine HO.out.mono ?_; rintro e w1 ⟨rfl, h1, h2⟩; have H1 := Lib.hid h1; have H2 := Lib.hid h2; clear h1 h2))
  have c1 : w1.cell? ⟨s, 1, none⟩ = some (.int .i64 d.cap) := H1.out.blk.cell 1
  have c2 : w1.cell? ⟨s, 2, none⟩ = some (.map (some m)) := H1.out.blk.cell 2
  have hl : ∀ k ty, (Builtin.len_ #[85] ty #[.map (some m)]).run Try.prog (w1.drewN k) = .ok (.int .i64 d.n) (w1.drewN k) := fun k ty => (H1.out.im.drewN k).len Try.underlying85 ty
  go_quiet (fail)
  clear c1 c2 hl
  go_wp2_with fail
  refine (lowest_any s m d.op _ (H1.out.drewN _) hn).mono ?_
  rintro e w2 ⟨L, rfl, hL, hw2⟩
  have HL := Lib.hid hL
  have H3 : Hid (Sto w2 s m d.op ∧ Fr (· = s) w w2) := Lib.hid (by rw [← hw2]; exact ⟨H1.out.drewN _, H2.out.drewN _⟩)
  clear hw2 hL H1 H2
  have c0 : w2.cell? ⟨s, 0, none⟩ = some (.int .i64 d.size) := H3.out.1.blk.cell 0
  have c2 : w2.cell? ⟨s, 2, none⟩ = some (.map (some m)) := H3.out.1.blk.cell 2
  obtain ⟨cur, hcur⟩ : ∃ cur, cur = madeCells (Value.int .u8 0).cells d.size := ⟨_, rfl⟩
  have hmk : ∀ W : World, (Instr.makeSlice 34 (.int .i64 d.size) (.int .i64 d.size)).run Try.prog W = .ok (.slice (some ⟨W.heap.size, 0, none⟩) d.size d.size) (W.alloc (.cells cur 5)) := fun W => by
    have := run_make (P := Try.prog) W 34 5 i0 _ Try.underlying34 hi hz0 .i64 .i64 (d.size : Int) (d.size : Int) (by omega) (by omega) (by rw [hz2]; have := H3.out.1.hi; simp only [Sd.op] at this; omega) (by have := H3.out.1.hi; simp only [Sd.op] at this; omega)
    simp only [Int.toNat_natCast, hz1, Nat.mul_one] at this
    rw [hcur]; exact this
  have HC := Lib.hid hcur
  clear hcur
  have hs3 : Hid (Sto (w2.alloc (.cells cur 5)).drew s m d.op) := Lib.hid ((H3.out.1.alloc _).drewN 1)
  have c2' : (w2.alloc (.cells cur 5)).drew.cell? ⟨s, 2, none⟩ = some (.map (some m)) := hs3.out.blk.cell 2
  obtain ⟨w3, hrun, him, hturn⟩ := hs3.out.im.store Try.underlying3 Try.underlying85 (by have := cnt_le d.op.B d.op.cap; rw [← hs3.out.num] at this; have := hs3.out.capm; unfold maxLen; omega) (L : Int) (WalkArith.wf_i64 (by have := HL.out.2.2; simp only [Sd.op] at this; omega)) (.slice (some ⟨w2.heap.size, 0, none⟩) d.size d.size)
  have HI := Lib.hid him
  have HT := Lib.hid (turned_fr hturn)
  clear him hturn
  go_wp2
  go_region
  all_goals
    have hb3 : Blk w3 s 95 (stC m d.op) := hs3.out.blk.fr HT.out (fun e => hs3.out.ms e.symm)
    have z3 : w3.frozen? ⟨s, 3, none⟩ = false := hb3.frozen 3
    have t3 : w3.cell? ⟨s, 3, none⟩ = some (.int .i64 d.taken) := hb3.cell 3
    have hL4 : L < 4097 := by have := HL.out.2.2; simp only [Sd.op] at this; omega
    have HB3 := Lib.hid hb3
    clear hb3 hmk
    go_wp2
    generalize hw4 : w3.setCell ⟨s, 3, none⟩ (.int .i64 ((L : Int) + 1)) = w4
    have hb4 : Blk w4 s 95 ((stC m d.op).setIfInBounds 3 (.int .i64 ((L : Int) + 1))) := by rw [← hw4]; exact HB3.out.set_ 3 _
    have hbn : (d.op.f (L : Int)).isSome = false := by rw [Sd.f_nat, HL.out.1]; rfl
    have hi4 : IM w4 Try.prog 3 m (d.n + 1) (d.op.al L w2.heap.size).f := by
      rw [← hw4]
      have := HI.out.far (p := ⟨s, 3, none⟩) hs3.out.ms (.int .i64 ((L : Int) + 1))
      rw [hbn] at this
      refine IM.congr this (fun j hj => al_f d.op L w2.heap.size j)
    have hcur4 : Blk w4 w2.heap.size 5 ((zs d.size).map U8).toArray := by
      rw [← hw4]
      refine Blk.far (p := ⟨s, 3, none⟩) ?_ (Nat.ne_of_gt H3.out.1.lt) _
      refine Blk.fr ?_ HT.out (Nat.ne_of_gt H3.out.1.im.lt)
      rw [← made_zs, ← HC.out]
      exact Blk.new w2 5 cur
    have f4 : Fr (fun k => k = s ∨ k = m) w2 w4 := by
      rw [← hw4]
      exact ((((Fr.refl _ w2).alloc (.cells cur 5)).drewN 1).trans (HT.out.more (fun k hk => .inr hk))).set_ (p := ⟨s, 3, none⟩) (.inl rfl) _
    have hl4 : (Builtin.len_ #[85] 3 #[.map (some m)]).run Try.prog w4.drew = .ok (.int .i64 ((d.n + 1 : Nat) : Int)) w4.drew := (hi4.drewN 1).len Try.underlying85 3
    have t4 : w4.cell? ⟨s, 4, none⟩ = some (.int .i64 d.peak) := hb4.cell 4
    have u4 : w4.cell? ⟨s, 2, none⟩ = some (.map (some m)) := hb4.cell 2
    have z4 : w4.frozen? ⟨s, 4, none⟩ = false := hb4.frozen 4
    have H4 := Lib.hid hb4
    have I4 := Lib.hid hi4
    have C4 := Lib.hid hcur4
    have F4 := Lib.hid f4
    clear hb4 hi4 hw4 hcur4 f4
    have fin : Hid (∀ X : Int, X = ((max d.peak (d.n + 1) : Nat) : Int) → Sto ((w4.setCell ⟨s, 4, none⟩ (.int .i64 X)).drew) s m (d.op.al L w2.heap.size) ∧ Fr (fun k => k = s ∨ k = m) w ((w4.setCell ⟨s, 4, none⟩ (.int .i64 X)).drew)) := Lib.hid (by
      rintro X rfl
      have hF := (F4.out.set_ (p := ⟨s, 4, none⟩) (.inl rfl) (.int .i64 ((max d.peak (d.n + 1) : Nat) : Int))).drewN 1
      refine ⟨Sto.al H3.out.1 HL.out (Nat.le_refl _) ?_ ?_ ?_ hF, (H3.out.2.more (fun k hk => .inl hk)).trans hF⟩
      · have := (H4.out.set_ 4 (.int .i64 ((max d.peak (d.n + 1) : Nat) : Int))).drewN 1
        exact this
      · exact (I4.out.far (p := ⟨s, 4, none⟩) H3.out.1.ms _).drewN 1
      · exact (C4.out.far (p := ⟨s, 4, none⟩) (Nat.ne_of_gt H3.out.1.lt) _).drewN 1)
    go_region
    all_goals
      go_wp2
      all_goals
        go_ret2
        refine ⟨L, w2.heap.size, rfl, HL.out, H3.out.2.size, (fin.out _ ?_).1, (fin.out _ ?_).2⟩ <;> omega
end Go.Proofs.Ytlnffcledpccjaa
