/-
  block.Store.Free, Read, Write.
-/
import Derived.Test.YtlnffcledpccjaaSd
namespace Go.Proofs.Ytlnffcledpccjaa
open Go.RowKit
set_option linter.unusedVariables false
def Sd.fr (d : Sd) (j : Nat) : Sd := { d with taken := min d.taken j, n := d.n - 1, B := fun i => if i = j then none else d.B i }
def Sd.wr (d : Sd) (j : Nat) (l : List Nat) : Sd := { d with B := fun i => if i = j then some l else d.B i }
theorem fr_f (d : Sd) (j : Nat) (x : Int) : (d.fr j).f x = if x = (j : Int) then none else d.f x := by
  unfold Sd.f Sd.fr
  by_cases h : 0 ≤ x
  · obtain ⟨k, rfl⟩ := Int.eq_ofNat_of_zero_le h
    rw [if_pos h, if_pos h, Int.toNat_natCast]
    by_cases e : k = j
    · subst e; simp
    · have : ¬ ((k : Int) = (j : Int)) := by omega
      simp only [if_neg e, if_neg this]
  · rw [if_neg h, if_neg h, if_neg (by omega)]
theorem wr_f (d : Sd) (j : Nat) (l : List Nat) (hj : (d.B j).isSome) (x : Int) : (d.wr j l).f x = d.f x := by
  unfold Sd.f Sd.wr
  by_cases h : 0 ≤ x
  · obtain ⟨k, rfl⟩ := Int.eq_ofNat_of_zero_le h
    rw [if_pos h, if_pos h, Int.toNat_natCast]
    by_cases e : k = j
    · subst e
      obtain ⟨l', hl'⟩ := Option.isSome_iff_exists.1 hj
      simp [hl']
    · simp only [if_neg e]
  · rw [if_neg h, if_neg h]
theorem Sto.free {w w5 : World} {s m j : Nat} {d : Sd} (h : Sto w s m d) (hj : (d.B j).isSome) (hb : Blk w5 s 95 (stC m (d.fr j))) (hi : IM w5 Try.prog 3 m (d.n - 1) (d.fr j).f)
    (hf : Fr (fun k => k = s ∨ k = m) w w5) : Sto w5 s m (d.fr j) := by
  have hcnt := cnt_put (d.fr j).B d.B j (by simp [Sd.fr]) hj (fun i hi => by simp [Sd.fr, hi]) d.cap (h.dom j hj)
  have hnum := h.num
  have hpk := h.pk
  refine ⟨hb, hi, ?_, ?_, h.lo, h.hi, h.capm, ?_, ?_, ?_, ?_⟩
  · intro i l hl
    by_cases e : i = j
    · simp [Sd.fr, e] at hl
    · simp only [Sd.fr, if_neg e] at hl ⊢
      have := h.cont i l hl
      exact ⟨this.1, this.2.1, this.2.2.fr hf (by
        have hi : (d.B i).isSome := by rw [hl]; rfl
        rintro (q | q)
        · exact h.gs hi q
        · exact h.gm hi q)⟩
  · intro i k hi hk hik
    by_cases e : i = j
    · simp [Sd.fr, e] at hi
    · by_cases e' : k = j
      · simp [Sd.fr, e'] at hk
      · simp only [Sd.fr, if_neg e', if_neg e] at hi hk hik
        exact h.apart i k hi hk hik
  · intro i hi
    have hi' : i < d.taken ∧ i < j := by simp only [Sd.fr] at hi; omega
    have e : i ≠ j := by omega
    simp only [Sd.fr, if_neg e]
    exact h.low i hi'.1
  · intro i hi
    by_cases e : i = j
    · simp [Sd.fr, e] at hi
    · simp only [Sd.fr, if_neg e] at hi ⊢
      exact h.dom i hi
  · show d.n - 1 = cnt (d.fr j).B d.cap
    omega
  · show d.n - 1 ≤ d.peak
    omega
theorem Sto.writ {w w5 : World} {s m j : Nat} {d : Sd} {l : List Nat} (h : Sto w s m d) (hj : (d.B j).isSome) (hl : l.length = d.size) (hx : ∀ x ∈ l, x < 256) (hc : Blk w5 (d.g j) 5 (l.map U8).toArray)
    (hf : Fr (· = d.g j) w w5) : Sto w5 s m (d.wr j l) := by
  have hjs := h.gs hj
  have hjm := h.gm hj
  have hsame : ∀ i, ((d.wr j l).B i).isSome = (d.B i).isSome := by
    intro i
    by_cases e : i = j
    · subst e; simp [Sd.wr, hj]
    · simp [Sd.wr, e]
  refine ⟨h.blk.fr hf (Ne.symm hjs), ?_, ?_, ?_, h.lo, h.hi, h.capm, ?_, ?_, ?_, h.pk⟩
  · exact (h.im.fr hf (Ne.symm hjm)).congr (fun x _ => wr_f d j l hj x)
  · intro i l' hl'
    by_cases e : i = j
    · subst e
      simp only [Sd.wr, if_pos] at hl' ⊢
      injection hl' with hl'
      subst hl'
      exact ⟨hl, hx, hc⟩
    · simp only [Sd.wr, if_neg e] at hl' ⊢
      have := h.cont i l' hl'
      exact ⟨this.1, this.2.1, this.2.2.fr hf (fun q => e (h.apart i j (by rw [hl']; rfl) hj q))⟩
  · intro i k hi hk hik
    rw [hsame] at hi hk
    exact h.apart i k hi hk hik
  · intro i hi
    rw [hsame]
    exact h.low i hi
  · intro i hi
    rw [hsame] at hi
    exact h.dom i hi
  · show d.n = cnt (d.wr j l).B d.cap
    rw [h.num]
    exact cnt_same _ _ _ (fun i _ => (hsame i).symm)
set_option maxHeartbeats 1000000 in
set_option maxRecDepth 100000 in
theorem Free_no (s m : Nat) (d : Sd) (j : Int) (w : World) (h : Sto w s m d) (hj : (Lit.int .i64 j).wf = true) (hn : (d.f j).isSome = false) :
    Calls Try.prog 68 #[.pointer (some ⟨s, 0, none⟩), .int .i64 j] w fun e w' => e = .returned (.int .i64 2) ∧ w = w' := by
  have HU := Lib.hid (reach_no s m d j w h hj hn)
  clear h hn hj
  go_enter Try.func68, Try.ntmps68
  go_wp2_with (go_at_call 81; refine HU.out.mono ?_; rintro e w' ⟨rfl, rfl⟩)
  go_ret
  exact ⟨rfl, rfl⟩
set_option maxHeartbeats 1000000 in
set_option maxRecDepth 100000 in
theorem Free_fault (s m : Nat) (d : Sd) (j : Int) (w : World) (h : Sto w s m d) (hj : (Lit.int .i64 j).wf = true) (hn : (d.f j).isSome = true) (ho : d.ops < 1000000) (hf : d.fl = true) :
    Calls Try.prog 68 #[.pointer (some ⟨s, 0, none⟩), .int .i64 j] w fun e w' => e = .returned (.int .i64 9) ∧ Sto w' s m d.op ∧ Fr (· = s) w w' := by
  have HU := reach_yes s m d j w h hj hn ho
  rw [show d.e = 9 from by rw [Sd.e, hf]; rfl] at HU
  have HU := Lib.hid HU
  clear h hn hj hf
  go_enter Try.func68, Try.ntmps68
  go_wp2_with (go_at_call 81; refine HU.out.mono ?_; rintro e w1 ⟨rfl, h1, h2⟩; have H1 := Lib.hid h1; have H2 := Lib.hid h2; clear h1 h2)
  go_ret
  exact ⟨rfl, H1.out, H2.out⟩
set_option maxHeartbeats 1000000 in
set_option maxRecDepth 100000 in
theorem Free_ok (s m : Nat) (d : Sd) (j : Nat) (w : World) (h : Sto w s m d) (hn : (d.B j).isSome = true) (ho : d.ops < 1000000) (hf : d.fl = false) :
    Calls Try.prog 68 #[.pointer (some ⟨s, 0, none⟩), .int .i64 j] w fun e w' => e = .returned (.int .i64 0) ∧ Sto w' s m (d.op.fr j) ∧ Fr (fun k => k = s ∨ k = m) w w' := by
  have hj4 : j < 4096 := by have := h.dom j hn; have := h.capm; omega
  have ht4 : d.taken ≤ 4096 := by have := h.takenle; have := h.capm; omega
  have hjw : Hid ((Lit.int .i64 (j : Int)).wf = true) := Lib.hid (WalkArith.wf_i64 (by omega))
  have HU := reach_yes s m d j w h hjw.out (by rw [Sd.f_nat]; exact hn) ho
  rw [show d.e = 0 from by rw [Sd.e, hf]; rfl] at HU
  have HU := Lib.hid HU
  have HN := Lib.hid hn
  clear h hn hf
  go_enter Try.func68, Try.ntmps68
  go_wp2_with (first
    | (go_at_call 81
       refine HU.out.mono ?_
       rintro e w1 ⟨rfl, h1, h2⟩
       have H1 := Lib.hid h1
       have H2 := Lib.hid h2
       clear h1 h2
       have c2 : w1.cell? ⟨s, 2, none⟩ = some (.map (some m)) := H1.out.blk.cell 2)
    | (at_delete
       refine wpList_delete_im _ rfl _ _ 85 3 rfl 34 Try.underlying3 Try.underlying85 m d.n d.op.f rfl H1.out.im (j : Int) rfl hjw.out ?_
       intro w2 him hturn
       have HF := Lib.hid (turned_fr hturn)
       have HB : Hid (Blk w2 s 95 (stC m d.op)) := Lib.hid (H1.out.blk.fr HF.out (fun e => H1.out.ms e.symm))
       have HI : Hid (IM w2 Try.prog 3 m (d.n - 1) (d.op.fr j).f) := Lib.hid (by
         have hs : (d.op.f (j : Int)).isSome = true := by rw [Sd.f_nat]; exact HN.out
         rw [hs] at him
         exact IM.congr him (fun x _ => fr_f d.op j x))
       have fin : Hid (∀ X : Int, X = ((min d.taken j : Nat) : Int) → Sto (w2.setCell ⟨s, 3, none⟩ (.int .i64 X)) s m (d.op.fr j) ∧ Fr (fun k => k = s ∨ k = m) w (w2.setCell ⟨s, 3, none⟩ (.int .i64 X))) := Lib.hid (by
         rintro X rfl
         have hF := (HF.out.more (T := fun k => k = s ∨ k = m) (fun k hk => .inr hk)).set_ (p := ⟨s, 3, none⟩) (.inl rfl) (.int .i64 ((min d.taken j : Nat) : Int))
         exact ⟨Sto.free H1.out HN.out (HB.out.set_ 3 _) (HI.out.far (p := ⟨s, 3, none⟩) H1.out.ms _) hF, (H2.out.more (fun k hk => .inl hk)).trans hF⟩)
       have c3 : w2.cell? ⟨s, 3, none⟩ = some (.int .i64 d.taken) := HB.out.cell 3
       have z3 : w2.frozen? ⟨s, 3, none⟩ = false := HB.out.frozen 3
       clear him hturn))
  all_goals
    go_ret
    refine ⟨rfl, (fin.out _ ?_).1, (fin.out _ ?_).2⟩ <;> omega
set_option maxHeartbeats 1000000 in
set_option maxRecDepth 100000 in
theorem Read_no (s m : Nat) (d : Sd) (j : Int) (w : World) (h : Sto w s m d) (hj : (Lit.int .i64 j).wf = true) (hn : (d.f j).isSome = false) :
    Calls Try.prog 104 #[.pointer (some ⟨s, 0, none⟩), .int .i64 j] w fun e w' => e = .returned (.tuple #[.slice none 0 0, .int .i64 2]) ∧ w = w' := by
  have HU := Lib.hid (reach_no s m d j w h hj hn)
  clear h hn hj
  go_enter Try.func104, Try.ntmps104
  go_wp2_with (go_at_call 81; refine HU.out.mono ?_; rintro e w' ⟨rfl, rfl⟩)
  go_ret2
  exact ⟨rfl, rfl⟩
set_option maxHeartbeats 1000000 in
set_option maxRecDepth 100000 in
theorem Read_fault (s m : Nat) (d : Sd) (j : Int) (w : World) (h : Sto w s m d) (hj : (Lit.int .i64 j).wf = true) (hn : (d.f j).isSome = true) (ho : d.ops < 1000000) (hf : d.fl = true) :
    Calls Try.prog 104 #[.pointer (some ⟨s, 0, none⟩), .int .i64 j] w fun e w' => e = .returned (.tuple #[.slice none 0 0, .int .i64 9]) ∧ Sto w' s m d.op ∧ Fr (· = s) w w' := by
  have HU := reach_yes s m d j w h hj hn ho
  rw [show d.e = 9 from by rw [Sd.e, hf]; rfl] at HU
  have HU := Lib.hid HU
  clear h hn hj hf
  go_enter Try.func104, Try.ntmps104
  go_wp2_with (go_at_call 81; refine HU.out.mono ?_; rintro e w1 ⟨rfl, h1, h2⟩; have H1 := Lib.hid h1; have H2 := Lib.hid h2; clear h1 h2)
  go_ret2
  exact ⟨rfl, H1.out, H2.out⟩
def RePost (s m : Nat) (d : Sd) (l : List Nat) (w : World) (e : Ending) (w' : World) : Prop :=
  ∃ b : Nat, e = .returned (.tuple #[.slice (some ⟨b, 0, none⟩) d.size d.size, .int .i64 0]) ∧ w.heap.size ≤ b ∧ Byt w' (some ⟨b, 0, none⟩) d.size d.size l ∧ Blk w' b 5 (l.map U8).toArray ∧ Sto w' s m d.op ∧ Fr (· = s) w w'
set_option maxHeartbeats 1000000 in
set_option maxRecDepth 100000 in
theorem Read_ok (s m : Nat) (d : Sd) (j : Nat) (l : List Nat) (w : World) (h : Sto w s m d) (hn : d.B j = some l) (ho : d.ops < 1000000) (hf : d.fl = false) :
    Calls Try.prog 104 #[.pointer (some ⟨s, 0, none⟩), .int .i64 j] w (RePost s m d l w) := by
  obtain ⟨i0, hi, hz0, hz1, hz2⟩ := info_parts info5
  have hn' : (d.B j).isSome = true := by rw [hn]; rfl
  have hj4 : j < 4096 := by have := h.dom j hn'; have := h.capm; omega
  have hs1 := h.lo
  have hs2 := h.hi
  have hjw : Hid ((Lit.int .i64 (j : Int)).wf = true) := Lib.hid (WalkArith.wf_i64 (by omega))
  have HU := reach_yes s m d j w h hjw.out (by rw [Sd.f_nat]; exact hn') ho
  rw [show d.e = 0 from by rw [Sd.e, hf]; rfl] at HU
  have HU := Lib.hid HU
  have HN := Lib.hid hn
  obtain ⟨cur, hcur⟩ : ∃ cur, cur = (madeCells (Value.int .u8 0).cells d.size).toList := ⟨_, rfl⟩
  have hcurl : Hid (cur.length = d.size) := Lib.hid (by rw [hcur, Array.length_toList, size_madeCells])
  have hcurE : Hid (madeCells (Value.int .u8 0).cells d.size = cur.toArray) := Lib.hid (by rw [hcur])
  obtain ⟨X, hX⟩ : ∃ X, X = l.map U8 := ⟨_, rfl⟩
  have HX := Lib.hid hX
  have HXl : Hid (X.length = d.size) := Lib.hid (by rw [hX, List.length_map]; exact (h.cont j l hn).1)
  have HX1 : Hid (∀ v ∈ X, v.oneCell' = true) := Lib.hid (by rw [hX]; exact u8_one l)
  have HXa : Hid (∀ x ∈ l, x < 256) := Lib.hid (h.cont j l hn).2.1
  clear h hn hf hn' hcur hX
  go_enter Try.func104, Try.ntmps104
  go_wp2_with (first
    | (go_at_call 81
       refine HU.out.mono ?_
       rintro e w1 ⟨rfl, h1, h2⟩
       have H1 := Lib.hid h1
       have H2 := Lib.hid h2
       clear h1 h2
       have c0 : w1.cell? ⟨s, 0, none⟩ = some (.int .i64 d.size) := H1.out.blk.cell 0)
    | (at_make
       refine wpList_make_lc _ rfl (.tmp 17) (.tmp 17) 34 rfl 5 i0 _ Try.underlying34 hi hz0 hz1 .i64 .i64 _ _ d.size d.size rfl rfl rfl rfl (Nat.le_refl _) (by rw [hz2]; omega) (by unfold maxLen; omega) ?_
       intro w2 hg2 hbel2
       have HG2 : Hid (Blk w2 w1.heap.size 5 cur.toArray) := Lib.hid (by
         have := hg2.out
         rw [hcurE.out] at this
         exact this)
       have HB2 := Lib.hid hbel2
       have HS2 : Hid (Sto w2 s m d.op) := Lib.hid (H1.out.below hbel2 (Nat.le_refl _))
       have c2 : w2.cell? ⟨s, 2, none⟩ = some (.map (some m)) := HS2.out.blk.cell 2
       clear hg2 hbel2)
    | (at_lookup
       refine wpList_lookup_im _ rfl _ _ 85 false rfl 3 34 Try.underlying3 Try.underlying85 (zero37 _) m d.n d.op.f rfl HS2.out.im (j : Int) rfl hjw.out ?_
       have e1 : Hid ((d.op.f (j : Int)).getD (.slice none 0 0) = .slice (some ⟨d.g j, 0, none⟩) d.size d.size) := Lib.hid (by
         show (Sd.f d.op (j : Int)).getD _ = _
         unfold Sd.f
         rw [if_pos (Int.natCast_nonneg j), Int.toNat_natCast]
         show ((d.B j).map _).getD _ = _
         rw [HN.out]
         rfl)
       rw [if_neg (by decide), e1.out])
    | (with_reducible refine wpList_copy_fr rfl (.tmp 19) (.tmp 25) 34 34 rfl 5 Try.underlying34 info5size (some ⟨w1.heap.size, 0, none⟩) (some ⟨d.g j, 0, none⟩) d.size d.size d.size d.size rfl rfl w1.heap.size 0 cur 5 HG2.out X ?d1 ?d2 ?d3 HX1.out ?_
       case d1 => rw [HXl.out]; exact (Nat.min_self _).symm
       case d2 => exact fun _ => ⟨rfl, _, rfl, Blk.src (by rw [HX.out]; exact (HS2.out.cont j l HN.out).2.2)⟩
       case d3 => rw [HXl.out, hcurl.out]; omega
       intro w3 hg3 hf3
       have HF3 := Lib.hid hf3
       clear hf3))
  go_ret2
  have hb3 : Blk w3 w1.heap.size 5 (l.map U8).toArray := by
    have := hg3.out
    rw [splice_all (by rw [HXl.out, hcurl.out]), HX.out] at this
    exact this
  have hsz := H2.out.size
  have hl3 : l.length = d.size := (H1.out.cont j l HN.out).1
  have hF : Fr (· = s) w w3 := by
    refine (H2.out.trans (Fr.of_below HB2.out)).trans_new HF3.out (fun i hi => .inr ?_)
    omega
  refine ⟨w1.heap.size, rfl, hsz, byt_of_blk hb3 hl3 HXa.out (by unfold maxLen; omega), hb3, ?_, hF⟩
  refine HS2.out.fr HF3.out (fun k hk e => ?_)
  have := H1.out.mlt hk
  omega
end Go.Proofs.Ytlnffcledpccjaa
