/-
  block.Store.Write; block.New; FailAt, Used, Peak, Ops, Failed, Size, Capacity; the given example (awake).
-/
import Derived.Test.YtlnffcledpccjaaSe
namespace Go.Proofs.Ytlnffcledpccjaa
open Go.RowKit
set_option linter.unusedVariables false
set_option maxHeartbeats 1000000 in
set_option maxRecDepth 100000 in
theorem Write_no (s m : Nat) (d : Sd) (j : Int) (A : Option Addr) (n cap : Nat) (w : World) (h : Sto w s m d) (hj : (Lit.int .i64 j).wf = true) (hn : (d.f j).isSome = false) :
    Calls Try.prog 83 #[.pointer (some ⟨s, 0, none⟩), .int .i64 j, .slice A n cap] w fun e w' => e = .returned (.int .i64 2) ∧ w = w' := by
  have HU := Lib.hid (has_no s m d j w h hj hn)
  clear h hn hj
  go_enter Try.func83, Try.ntmps83
  go_wp2_with (go_at_call 98; refine HU.out.mono ?_; rintro e w' ⟨rfl, rfl⟩)
  go_ret
  exact ⟨rfl, rfl⟩
set_option maxHeartbeats 1000000 in
set_option maxRecDepth 100000 in
theorem Write_len (s m : Nat) (d : Sd) (j : Int) (A : Option Addr) (n cap : Nat) (w : World) (h : Sto w s m d) (hj : (Lit.int .i64 j).wf = true) (hn : (d.f j).isSome = true) (hl : n ≠ d.size) :
    Calls Try.prog 83 #[.pointer (some ⟨s, 0, none⟩), .int .i64 j, .slice A n cap] w fun e w' => e = .returned (.int .i64 1) ∧ w = w' := by
  have HU := Lib.hid (has_yes s m d j w h hj hn)
  have c0 : w.cell? ⟨s, 0, none⟩ = some (.int .i64 d.size) := h.blk.cell 0
  have hne : ((n : Int) == (d.size : Int)) = false := by simp; omega
  have hne' : ((n : Int) != (d.size : Int)) = true := by simp; omega
  clear h hn hj hl
  go_enter Try.func83, Try.ntmps83
  go_wp2_with (go_at_call 98; refine HU.out.mono ?_; rintro e w' ⟨rfl, rfl⟩)
  go_ret
  exact ⟨rfl, rfl⟩
set_option maxHeartbeats 1000000 in
set_option maxRecDepth 100000 in
theorem Write_fault (s m : Nat) (d : Sd) (j : Int) (A : Option Addr) (cap : Nat) (w : World) (h : Sto w s m d) (hj : (Lit.int .i64 j).wf = true) (hn : (d.f j).isSome = true) (ho : d.ops < 1000000) (hf : d.fl = true) :
    Calls Try.prog 83 #[.pointer (some ⟨s, 0, none⟩), .int .i64 j, .slice A d.size cap] w fun e w' => e = .returned (.int .i64 9) ∧ Sto w' s m d.op ∧ Fr (· = s) w w' := by
  have HU := Lib.hid (has_yes s m d j w h hj hn)
  have HO := operate_any s m d w h ho
  rw [show d.e = 9 from by rw [Sd.e, hf]; rfl] at HO
  have HO := Lib.hid HO
  have c0 : w.cell? ⟨s, 0, none⟩ = some (.int .i64 d.size) := h.blk.cell 0
  have haa : ∀ z : Int, (z != z) = false := by simp
  clear h hn hj hf
  go_enter Try.func83, Try.ntmps83
  go_wp2_with (first
    | (go_at_call 98; refine HU.out.mono ?_; rintro e w' ⟨rfl, rfl⟩)
    | (go_at_call 99; refine HO.out.mono ?_; rintro e w1 ⟨rfl, h1, h2⟩; have H1 := Lib.hid h1; have H2 := Lib.hid h2; clear h1 h2))
  go_ret
  exact ⟨rfl, H1.out, H2.out⟩
theorem byt_ne {w : World} {s m b off n cap : Nat} {d : Sd} {l : List Nat} (h : Blk w s 95 (stC m d)) (hb : Byt w (some ⟨b, off, none⟩) n cap l) (h0 : 0 < n) : b ≠ s := by
  rintro rfl
  obtain ⟨b', off', e, _, hc⟩ := hb.2.2.2.2 h0
  injection e with e
  injection e with e1 e2
  subst e1
  subst e2
  have := hc 0 h0
  rw [Nat.add_zero, h.cell off] at this
  unfold stC at this
  match off, this with
  | 0, this => simp at this
  | 1, this => simp at this
  | 2, this => simp at this
  | 3, this => simp at this
  | 4, this => simp at this
  | 5, this => simp at this
  | 6, this => simp at this
  | 7, this => simp at this
  | k + 8, this => simp at this
theorem Byt.fr {S : Nat → Prop} {w w' : World} {b off n cap : Nat} {l : List Nat} (h : Byt w (some ⟨b, off, none⟩) n cap l) (hf : Fr S w w') (hS : ¬ S b) : Byt w' (some ⟨b, off, none⟩) n cap l := by
  refine ⟨h.1, h.2.1, h.2.2.1, h.2.2.2.1, fun h0 => ?_⟩
  obtain ⟨b', off', e, hlt, hc⟩ := h.2.2.2.2 h0
  injection e with e
  injection e with e1 e2
  subst e1
  subst e2
  refine ⟨b, off, rfl, Nat.lt_of_lt_of_le hlt hf.size, fun j hj => ?_⟩
  rw [← hc j hj]
  exact World.cell?_of_block (hf.block b hlt hS)
set_option maxHeartbeats 1000000 in
set_option maxRecDepth 100000 in
theorem Write_ok (s m : Nat) (d : Sd) (j : Nat) (A : Option Addr) (cap : Nat) (l : List Nat) (w : World) (h : Sto w s m d) (hn : (d.B j).isSome = true) (hb : Byt w A d.size cap l) (ho : d.ops < 1000000) (hf : d.fl = false) :
    Calls Try.prog 83 #[.pointer (some ⟨s, 0, none⟩), .int .i64 j, .slice A d.size cap] w fun e w' => e = .returned (.int .i64 0) ∧ Sto w' s m (d.op.wr j l) ∧ Fr (fun k => k = s ∨ k = d.g j) w w' := by
  have hj4 : j < 4096 := by have := h.dom j hn; have := h.capm; omega
  have hs1 := h.lo
  obtain ⟨b, off, rfl, hblt, _⟩ := hb.2.2.2.2 (by omega)
  have hbs := byt_ne h.blk hb (by omega)
  have hjw : Hid ((Lit.int .i64 (j : Int)).wf = true) := Lib.hid (WalkArith.wf_i64 (by omega))
  have HU := Lib.hid (has_yes s m d j w h hjw.out (by rw [Sd.f_nat]; exact hn))
  have HO := operate_any s m d w h ho
  rw [show d.e = 0 from by rw [Sd.e, hf]; rfl] at HO
  have HO := Lib.hid HO
  have c0 : w.cell? ⟨s, 0, none⟩ = some (.int .i64 d.size) := h.blk.cell 0
  have haa : ∀ z : Int, (z != z) = false := by simp
  obtain ⟨lo, hlo⟩ := Option.isSome_iff_exists.1 hn
  have HN := Lib.hid hn
  have HLO := Lib.hid hlo
  obtain ⟨cur, hcur⟩ : ∃ cur, cur = lo.map U8 := ⟨_, rfl⟩
  have HCl : Hid (cur.length = d.size) := Lib.hid (by rw [hcur, List.length_map]; exact (h.cont j lo hlo).1)
  have HC := Lib.hid hcur
  obtain ⟨X, hX⟩ : ∃ X, X = l.map U8 := ⟨_, rfl⟩
  have HX := Lib.hid hX
  have HXl : Hid (X.length = d.size) := Lib.hid (by rw [hX, List.length_map]; exact hb.1)
  have HX1 : Hid (∀ v ∈ X, v.oneCell' = true) := Lib.hid (by rw [hX]; exact u8_one l)
  have HY := Lib.hid hb
  clear h hn hf hlo hcur hX hb
  go_enter Try.func83, Try.ntmps83
  go_wp2_with (first
    | (go_at_call 98; refine HU.out.mono ?_; rintro e w' ⟨rfl, rfl⟩)
    | (go_at_call 99
       refine HO.out.mono ?_
       rintro e w1 ⟨rfl, h1, h2⟩
       have H1 := Lib.hid h1
       have H2 := Lib.hid h2
       clear h1 h2
       have c2 : w1.cell? ⟨s, 2, none⟩ = some (.map (some m)) := H1.out.blk.cell 2)
    | (at_lookup
       refine wpList_lookup_im _ rfl _ _ 85 false rfl 3 34 Try.underlying3 Try.underlying85 (zero37 _) m d.n d.op.f rfl H1.out.im (j : Int) rfl hjw.out ?_
       have e1 : Hid ((d.op.f (j : Int)).getD (.slice none 0 0) = .slice (some ⟨d.g j, 0, none⟩) d.size d.size) := Lib.hid (by
         show (Sd.f d.op (j : Int)).getD _ = _
         unfold Sd.f
         rw [if_pos (Int.natCast_nonneg j), Int.toNat_natCast]
         show ((d.B j).map _).getD _ = _
         rw [HLO.out]
         rfl)
       rw [if_neg (by decide), e1.out])
    | (with_reducible refine wpList_copy_fr rfl (.tmp 32) (.tmp 33) 34 34 rfl 5 Try.underlying34 info5size (some ⟨d.g j, 0, none⟩) (some ⟨b, off, none⟩) d.size d.size d.size cap rfl rfl (d.g j) 0 cur 5 ?d0 X ?d1 ?d2 ?d3 HX1.out ?_
       case d0 => rw [HC.out]; exact (H1.out.cont j lo HLO.out).2.2
       case d1 => rw [HXl.out]; exact (Nat.min_self _).symm
       case d2 =>
         intro _
         have := (HY.out.fr H2.out hbs).src (by omega)
         obtain ⟨ad, e, hh⟩ := this
         exact ⟨rfl, ad, e, by rw [HX.out]; exact hh⟩
       case d3 => rw [HXl.out, HCl.out]; omega
       intro w3 hg3 hf3
       have HF3 := Lib.hid hf3
       clear hf3))
  go_ret
  have hb3 : Blk w3 (d.g j) 5 (l.map U8).toArray := by
    have := hg3.out
    rw [splice_all (by rw [HXl.out, HCl.out]), HX.out] at this
    exact this
  refine ⟨rfl, Sto.writ H1.out HN.out HY.out.1 HY.out.2.1 hb3 HF3.out, (H2.out.more (fun k hk => .inl hk)).trans (HF3.out.more (fun k hk => .inr hk))⟩
def nu (size cap : Nat) : Sd := ⟨size, cap, 0, 0, 0, 0, -1, false, fun _ => 0, fun _ => none⟩
set_option maxHeartbeats 1000000 in
set_option maxRecDepth 100000 in
theorem SNew_bad (a b : Int) (w : World) (h : a < 16 ∨ (16 ≤ a ∧ 1024 < a) ∨ (16 ≤ a ∧ a ≤ 1024 ∧ b < 0) ∨ (16 ≤ a ∧ a ≤ 1024 ∧ 0 ≤ b ∧ 4096 < b)) :
    Calls Try.prog 13 #[.int .i64 a, .int .i64 b] w fun e w' => e = .returned (.tuple #[.pointer none, .int .i64 1]) ∧ w = w' := by
  rcases h with h | ⟨h, h'⟩ | ⟨h, h', h''⟩ | ⟨h, h', h'', h3⟩
  all_goals
    go_enter Try.func13, Try.ntmps13
    go_wp2
    go_ret2
    exact ⟨rfl, rfl⟩
def NuPost (a b : Nat) (w : World) (e : Ending) (w' : World) : Prop :=
  ∃ s m : Nat, e = .returned (.tuple #[.pointer (some ⟨s, 0, none⟩), .int .i64 0]) ∧ Sto w' s m (nu a b) ∧ Below w.heap.size w w' ∧ w.heap.size ≤ s ∧ w.heap.size ≤ m
set_option maxHeartbeats 1000000 in
set_option maxRecDepth 100000 in
theorem SNew_ok (a b : Nat) (w : World) (h1 : 16 ≤ a) (h2 : a ≤ 1024) (h3 : b ≤ 4096) :
    Calls Try.prog 13 #[.int .i64 a, .int .i64 b] w (NuPost a b w) := by
  have hmm := @run_makeMap Try.prog
  go_enter Try.func13, Try.ntmps13
  go_wp2
  go_ret2
  have hi : IM ((w.alloc (.map #[] 0)).alloc (.cells (stC w.heap.size (nu a b)) 95)) Try.prog 3 w.heap.size 0 (nu a b).f :=
    ((IM.made w Try.prog 3).alloc _).congr (fun j _ => by unfold Sd.f nu; split <;> rfl)
  have hb : Blk ((w.alloc (.map #[] 0)).alloc (.cells (stC w.heap.size (nu a b)) 95)) (w.heap.size + 1) 95 (stC w.heap.size (nu a b)) := by
    have := Blk.new (w.alloc (.map #[] 0)) 95 (stC w.heap.size (nu a b))
    simpa using this
  refine ⟨w.heap.size + 1, w.heap.size, rfl, ⟨hb, hi, ?_, ?_, h1, h2, h3, ?_, ?_, ?_, Nat.le_refl _⟩, ?_, by omega, Nat.le_refl _⟩
  · intro i l hl; cases hl
  · intro i j hi; cases hi
  · intro i hi; exact absurd hi (Nat.not_lt_zero _)
  · intro i hi; cases hi
  · show 0 = cnt _ _
    unfold cnt nu
    rw [List.filter_eq_nil_iff.2 (fun i _ => by simp)]
    rfl
  · exact ((Below.refl _ _).alloc (Nat.le_refl _) _).alloc (by simp) _
section
variable {s m : Nat} {d : Sd} {w : World}
set_option maxRecDepth 100000 in
theorem Used_any (h : Sto w s m d) : Calls Try.prog 21 #[.pointer (some ⟨s, 0, none⟩)] w fun e w' => e = .returned (.int .i64 d.n) ∧ w = w' := by
  have c2 : w.cell? ⟨s, 2, none⟩ = some (.map (some m)) := h.blk.cell 2
  have H := Lib.hid h
  clear h
  go_enter Try.func21, Try.ntmps21
  go_wp2_with (at_len; refine wpList_len_im _ rfl _ 85 rfl 3 34 Try.underlying85 m d.n d.f rfl H.out.im ?_)
  go_ret
  exact ⟨rfl, rfl⟩
set_option maxRecDepth 100000 in
theorem Size_any (h : Sto w s m d) : Calls Try.prog 39 #[.pointer (some ⟨s, 0, none⟩)] w fun e w' => e = .returned (.int .i64 d.size) ∧ w = w' := by
  have c2 : w.cell? ⟨s, 0, none⟩ = some (.int .i64 d.size) := h.blk.cell 0
  clear h
  go_enter Try.func39, Try.ntmps39
  go_wp2
  go_ret
  exact ⟨rfl, rfl⟩
end
theorem Low_uniq {d : Sd} {L k : Nat} (h : d.Low L) (hk : d.B k = none) (hb : ∀ i, i < k → (d.B i).isSome) : L = k := by
  rcases Nat.lt_trichotomy L k with h1 | h1 | h1
  · have := hb L h1
    rw [h.1] at this
    cases this
  · exact h1
  · have := h.2.1 k h1
    rw [hk] at this
    cases this
theorem Sd.fl_no {d : Sd} (h : d.fails < 0) : d.fl = false := by
  unfold Sd.fl
  simp
  omega
end Go.Proofs.Ytlnffcledpccjaa
