/-
  Texts of YtggfaalodojjkaaGreatDoorY9.
-/
import Derived.Test.YtggfaalodojjkaaGreatDoorY1
import Derived.Test.YtggfaalodojjkaaGreatDoorY8
import Derived.Test.YtggfaalodojjkaaGreatDoorY6
namespace Go.Proofs.YtggfaalodojjkaaGreatDoor
open Go.RowKit
set_option linter.unusedVariables false
set_option linter.unusedSimpArgs false
section
variable {w w' : World} {f g c N : Nat} {l : List Nat} {r : Nat} {fa : Int} {fr t a R er : Nat}
theorem RSt.after {r' a' : Nat} (h : RSt w f g c N l r fa fr t a R er) (hs : St w' f g c N l r' fa fr t a') (hf : Fr (FC f c) w w') : RSt w' f g c N l r' fa fr t a' R er :=
  ⟨hs, h.rd.fr hf (fun e => by rcases e with e | e; exact h.fR e.symm; exact h.cR e.symm)⟩
theorem Fr.fcR (hf : Fr (FC f c) w w') : Fr (FR f c R) w w' := hf.more (fun q e => by rcases e with e | e; exact .inl e; exact .inr (.inl e))
theorem Fr.oR (hf : Fr (fun q => q = R) w w') : Fr (FR f c R) w w' := hf.more (fun q e => .inr (.inr e))
theorem came_old {α : Type} {r r' : Nat} {x : α} {F : α × Nat × Nat} (he : er ≠ 0) (hF : F = (x, a, er)) : Came fa r a r' x a er F := .inr ⟨hF.symm, fun q => absurd q he⟩
theorem meet0 (h : RSt w f g c N l r fa fr t a R 0) (e : Nat) : Calls Tryz.prog 99 #[.pointer (some ⟨R, 0, none⟩), .int .i64 e] w fun x w' => x = .returned (.tuple #[]) ∧ RSt w' f g c N l r fa fr t a R e ∧ Fr (fun q => q = R) w w' := by
  have := meet_ok h e
  rwa [if_pos rfl] at this
set_option maxHeartbeats 1000000 in
set_option maxRecDepth 100000 in
theorem nextB_ok (h : RSt w f g c N l r fa fr t a R er) (hr : r < 100000) (hx : ∀ z ∈ l, z < 256) : Calls Tryz.prog 96 #[.pointer (some ⟨R, 0, none⟩), .func (.func 97) #[.pointer (some ⟨c, 0, none⟩)] #[]] w (fun e w' => ∃ x a' er' r' : Nat, e = .returned (.int .u8 x) ∧ x < 256 ∧ RSt w' f g c N l r' fa fr t a' R er' ∧ Fr (FR f c R) w w' ∧ r ≤ r' ∧ r' ≤ r + 1 ∧ Came fa r a r' x a' er' (byF l t a er)) := by
  have c1 : w.cell? ⟨R, 1, none⟩ = some (.int .i64 er) := h.rd.cell 1
  have H := Lib.hid h
  by_cases he : er = 0
  case neg =>
    have hq : (((er : Nat) : Int) != 0) = true := by rw [bne_iff_ne]; omega
    clear h
    go_enter Tryz.func96, Tryz.ntmps96
    go_wp2
    go_ret
    exact ⟨0, a, er, r, rfl, by omega, H.out, Fr.refl _ _, Nat.le_refl _, by omega, came_old he (by unfold byF; rw [if_neg he])⟩
  subst he
  by_cases hat : a < t
  · by_cases hfa : fa < 0 ∨ (0 ≤ fa ∧ (r : Int) < fa)
    · have HB := Lib.hid (Byte_ok w f g c N l r fa fr t a h.st hat (by omega) hfa)
      have hz : l.getD a 0 < 256 := by
        rw [List.getD_eq_getElem?_getD]
        cases e : l[a]? with
        | none => simp
        | some z => simpa using hx z (List.mem_of_getElem? e)
      obtain ⟨z, ez⟩ : ∃ z, z = l.getD a 0 := ⟨_, rfl⟩
      rw [← ez] at HB hz
      have HZ := Lib.hid ez
      have HF := Lib.hid hfa
      clear h hfa ez
      go_enter Tryz.func96, Tryz.ntmps96
      go_wp2_with (first
        | (go_at_call 97; refine HB.out.mono ?_; rintro e w1 ⟨rfl, hs, hf⟩; have H1 := Lib.hid (H.out.after hs hf); have HF1 := Lib.hid hf; have HM := Lib.hid (meet_ok (H.out.after hs hf) 0); clear hs hf)
        | (go_at_call 99; refine HM.out.mono ?_; rintro e w2 ⟨rfl, hs, hf⟩; have H2 := Lib.hid hs; have HF2 := Lib.hid hf; clear hs hf))
      go_ret
      refine ⟨z, a + 1, 0, r + 1, rfl, hz, H2.out, HF1.out.fcR.trans HF2.out.oR, by omega, by omega, .inr ⟨?_, fun _ => ⟨?_, by omega⟩⟩⟩
      · unfold byF; rw [if_pos rfl, if_pos hat, HZ.out]
      · have := HF.out; omega
    · have HB := Lib.hid (Byte_fail w f g c N l r fa fr t a h.st hat (by omega) (by omega) (by omega))
      have HF : Hid (0 ≤ fa ∧ fa ≤ r) := Lib.hid (by omega)
      clear h hfa
      go_enter Tryz.func96, Tryz.ntmps96
      go_wp2_with (first
        | (go_at_call 97; refine HB.out.mono ?_; rintro e w1 ⟨rfl, hs, hf⟩; have HF1 := Lib.hid hf; have HM := Lib.hid (meet_ok (H.out.after hs hf) 9); clear hs hf)
        | (go_at_call 99; refine HM.out.mono ?_; rintro e w2 ⟨rfl, hs, hf⟩; have H2 := Lib.hid hs; have HF2 := Lib.hid hf; clear hs hf))
      go_ret
      exact ⟨0, a, 9, r + 1, rfl, by omega, H2.out, HF1.out.fcR.trans HF2.out.oR, by omega, by omega, .inl ⟨rfl, HF.out.1, by have := HF.out.2; omega⟩⟩
  · have HB := Lib.hid (Byte_bad w f g c N l r fa fr t a h.st (by omega))
    clear h
    go_enter Tryz.func96, Tryz.ntmps96
    go_wp2_with (first
      | (go_at_call 97; refine HB.out.mono ?_; rintro e w1 ⟨rfl, k, rfl⟩; have HM := Lib.hid (meet_ok (H.out.drewN k) 3))
      | (go_at_call 99; refine HM.out.mono ?_; rintro e w2 ⟨rfl, hs, hf⟩; have H2 := Lib.hid hs; have HF2 := Lib.hid hf; clear hs hf))
    go_ret
    refine ⟨0, a, 3, r, rfl, by omega, H2.out, HF2.out.undrewN.oR, by omega, by omega, .inr ⟨?_, fun q => by cases q⟩⟩
    unfold byF; rw [if_pos rfl, if_neg hat]
/-- what a number comes to -/
def NuR (f g c N : Nat) (l : List Nat) (r : Nat) (fa : Int) (fr t a R er : Nat) (k : Int) (w : World) (e : Ending) (w' : World) : Prop :=
  ∃ x a' er' r' : Nat, e = .returned (.int .u64 x) ∧ x < 18446744073709551616 ∧ RSt w' f g c N l r' fa fr t a' R er' ∧ Fr (FR f c R) w w' ∧ r ≤ r' ∧ r' ≤ r + 11 ∧ Came fa r a r' x a' er' (nuF l t k a er)
set_option maxHeartbeats 1000000 in
set_option maxRecDepth 100000 in
theorem numc_ok (h : RSt w f g c N l r fa fr t a R er) (hr : r < 100000) (B1 B2 : Nat) (k : Int) (h1 : Blk w B1 125 #[.pointer (some ⟨R, 0, none⟩)]) (h2 : Blk w B2 3 #[.int .i64 k]) :
    Calls Tryz.prog 101 #[.pointer (some ⟨B1, 0, none⟩), .pointer (some ⟨B2, 0, none⟩)] w (NumQ f g c N l r fa fr t a k w) := by
  have c0 : w.cell? ⟨B1, 0, none⟩ = some (.pointer (some ⟨R, 0, none⟩)) := h1.cell 0
  have c1 : w.cell? ⟨B2, 0, none⟩ = some (.int .i64 k) := h2.cell 0
  have c2 : w.cell? ⟨R, 0, none⟩ = some (.pointer (some ⟨c, 0, none⟩)) := h.rd.cell 0
  have HN := Lib.hid (fun q => qUnsigned (w.drewN q) f g c N l r fa fr t a k (h.st.drewN q) hr)
  unfold NumQ at HN ⊢
  clear h h1 h2
  go_enter Tryz.func101, Tryz.ntmps101
  go_wp2
  go_region_with (go_at_call 102; refine (HN.out 1).mono ?_; rintro e w' ⟨x, y, r', a', rfl, h1, h2, h3, h4, h5⟩; have H1 := Lib.hid h1; have H2 := Lib.hid h2; have H5 := Lib.hid h5; clear h1 h2 h5)
  all_goals
    go_wp2
    go_ret2
    exact ⟨x, y, r', a', rfl, H1.out, H2.out.undrewN, h3, h4, H5.out⟩
theorem Blk.kept {B : Nat} {S : Nat → Prop} {ty : TypeId} {cs : Array Value} (h : Blk w B ty cs) (hf : Fr S w w') (hs : ¬ S B) : Blk w' B ty cs := h.fr hf hs
set_option maxHeartbeats 1000000 in
set_option maxRecDepth 100000 in
theorem number_ok (h : RSt w f g c N l r fa fr t a R er) (hr : r < 100000) (k : Int) : Calls Tryz.prog 71 #[.pointer (some ⟨R, 0, none⟩), .int .i64 k] w (NuR f g c N l r fa fr t a R er k w) := by
  obtain ⟨W, hW⟩ : ∃ W, W = (w.alloc (.cells #[.pointer (some ⟨R, 0, none⟩)] 125)).alloc (.cells #[.int .i64 k] 3) := ⟨_, rfl⟩
  have hf0 : Fr (fun _ => False) w W := by rw [hW]; exact ((Fr.refl _ w).alloc _).alloc _
  have hb1 : Blk W w.heap.size 125 #[.pointer (some ⟨R, 0, none⟩)] := by rw [hW]; exact (Blk.new w 125 _).alloc _
  have hb2 : Blk W (w.heap.size + 1) 3 #[.int .i64 k] := by rw [hW]; exact heap2 w _ _
  have h0 := h.new hf0
  have c0 : W.cell? ⟨w.heap.size, 0, none⟩ = some (.pointer (some ⟨R, 0, none⟩)) := hb1.cell 0
  have HW := Lib.hid hW
  have HF0 := Lib.hid hf0
  have H0 := Lib.hid h0
  have HC := Lib.hid (numc_ok h0 hr w.heap.size (w.heap.size + 1) k hb1 hb2)
  have hN : Calls Tryz.prog 100 #[.pointer (some ⟨R, 0, none⟩), .func (.func 101) #[] #[.pointer (some ⟨w.heap.size, 0, none⟩), .pointer (some ⟨w.heap.size + 1, 0, none⟩)]] W (NuR f g c N l r fa fr t a R er k W) := by
    have c1 : W.cell? ⟨R, 1, none⟩ = some (.int .i64 er) := h0.rd.cell 1
    clear h hW hb1 hb2 c0 hf0 h0 HF0 HW
    unfold NumQ at HC
    unfold NuR
    by_cases he : er = 0
    case neg =>
      have hq : (((er : Nat) : Int) != 0) = true := by rw [bne_iff_ne]; omega
      go_enter Tryz.func100, Tryz.ntmps100
      go_wp2
      go_ret
      exact ⟨0, a, er, r, rfl, by omega, H0.out, Fr.refl _ _, Nat.le_refl _, by omega, came_old he (by unfold nuF; rw [if_neg he])⟩
    subst he
    go_enter Tryz.func100, Tryz.ntmps100
    go_wp2_with (first
      | (go_at_call 101; refine HC.out.mono ?_; rintro e w1 ⟨x, y, r', a', rfl, hs, hf, h3, h4, h5⟩; have H1 := Lib.hid (H0.out.after hs hf); have HF1 := Lib.hid hf; have H5 := Lib.hid h5; have HM := Lib.hid (meet0 (H0.out.after hs hf) y); clear hs hf h5)
      | (go_at_call 99; refine HM.out.mono ?_; rintro e w2 ⟨rfl, hs, hf⟩; have H2 := Lib.hid hs; have HF2 := Lib.hid hf; clear hs hf))
    go_ret
    refine ⟨x, a', y, r', rfl, ?_, H2.out, HF1.out.fcR.trans HF2.out.oR, h3, h4, ?_⟩
    · rcases H5.out with ⟨_, e, _⟩ | ⟨e, _⟩
      · omega
      · rw [e]; have := Leb.uns_lt (rest l t a) k; unfold rest at this; omega
    · rcases H5.out with ⟨e1, e2, e3, e4, e5⟩ | ⟨e1, e2, e3, e4⟩
      · exact .inl ⟨e1, e4, e5⟩
      · refine .inr ⟨?_, e4⟩
        unfold nuF rest
        rw [if_pos rfl, e1, e2, e3]
  have HN := Lib.hid hN
  unfold NuR at HN ⊢
  clear hN h hW hb1 hb2 hf0 h0
  go_enter Tryz.func71, Tryz.ntmps71
  go_upto_region 1 with fail
  rw [← HW.out]
  go_wp2_with (go_at_call 100; refine HN.out.mono ?_; rintro e w1 ⟨x, a', er', r', rfl, q1, q2, q3, q4, q5, q6⟩; have H1 := Lib.hid (And.intro q2 (And.intro q3 q6)); clear q2 q3 q6)
  go_ret
  exact ⟨x, a', er', r', rfl, q1, H1.out.1, (HF0.out.more (fun q e => e.elim)).trans H1.out.2.1, q4, q5, H1.out.2.2⟩
end
end Go.Proofs.YtggfaalodojjkaaGreatDoor
namespace Go.Proofs.YtggfaalodojjkaaGreatDoor
open Go.RowKit
set_option linter.unusedVariables false
set_option linter.unusedSimpArgs false
/-- two steps, one behind the other -/
theorem came_seq {α β : Type} {fa : Int} {r a r1 a1 er1 r2 a2 er2 : Nat} {x : α} {y : β} {F1 : α × Nat × Nat} {F2 : β × Nat × Nat} (h2 : er1 ≠ 0 → F2.2.2 = er1)
    (c1 : Came fa r a r1 x a1 er1 F1) (c2 : Came fa r1 a1 r2 y a2 er2 F2) (hr : r1 ≤ r2) :
    (er2 = 9 ∧ 0 ≤ fa ∧ fa < r2) ∨ ((x, a1, er1) = F1 ∧ (y, a2, er2) = F2 ∧ (er2 = 0 → (fa < 0 ∨ (r2 : Int) ≤ fa) ∧ r2 + a = r + a2)) := by
  rcases c2 with c2 | ⟨e2, k2⟩
  · exact .inl c2
  have e22 : er2 = F2.2.2 := by rw [← e2]
  rcases c1 with ⟨e, h0, h1⟩ | ⟨e1, k1⟩
  · refine .inl ⟨?_, h0, by omega⟩
    rw [e22, h2 (by omega), e]
  · refine .inr ⟨e1, e2, fun q => ?_⟩
    have hk := k2 q
    have he1 : er1 = 0 := by
      rcases Nat.eq_zero_or_pos er1 with z | z
      · exact z
      · have := h2 (by omega); omega
    have := k1 he1
    exact ⟨hk.1, by omega⟩
theorem byF_er (l : List Nat) (t a er : Nat) (h : er ≠ 0) : (byF l t a er).2.2 = er := by unfold byF; rw [if_neg h]
theorem nuF_er (l : List Nat) (t : Nat) (k : Int) (a er : Nat) (h : er ≠ 0) : (nuF l t k a er).2.2 = er := by unfold nuF; rw [if_neg h]
theorem sgF_er (l : List Nat) (t : Nat) (k : Int) (a er : Nat) (h : er ≠ 0) : (sgF l t k a er).2.2 = er := by unfold sgF; rw [if_neg h]
/-- an error met behind a step -/
theorem came_meet {α : Type} {fa : Int} {r a r' : Nat} {x : α} {a' er' : Nat} {F : α × Nat × Nat} (e : Nat) (he : e ≠ 0) (h : Came fa r a r' x a' er' F) : Came fa r a r' x a' (if er' = 0 then e else er') (F.1, F.2.1, if F.2.2 = 0 then e else F.2.2) := by
  rcases h with ⟨e1, h0, h1⟩ | ⟨e1, k⟩
  · exact .inl ⟨by rw [if_neg (by omega)]; exact e1, h0, h1⟩
  · subst e1
    refine .inr ⟨rfl, fun q => ?_⟩
    split at q
    · exact absurd q he
    · rename_i hn; exact absurd q hn
/-- a block's type -/
def btF (l : List Nat) (t a er : Nat) : Nat × Nat × Nat := if bkB (byF l t a er).1 then byF l t a er else ((byF l t a er).1, (byF l t a er).2.1, if (byF l t a er).2.2 = 0 then 4 else (byF l t a er).2.2)
theorem btF_er (l : List Nat) (t a er : Nat) (h : er ≠ 0) : (btF l t a er).2.2 = er := by
  unfold btF
  have := byF_er l t a er h
  split
  · exact this
  · simp only [this, if_neg h]
section
variable {w w' : World} {f g c N : Nat} {l : List Nat} {r : Nat} {fa : Int} {fr t a R er : Nat}
/-- what a step that answers a word comes to -/
def WR (f g c N : Nat) (l : List Nat) (r : Nat) (fa : Int) (fr t a R : Nat) (C : Nat) (F : Nat × Nat × Nat) (w : World) (e : Ending) (w' : World) : Prop :=
  ∃ x a' er' r' : Nat, e = .returned (.int .u64 x) ∧ x < 18446744073709551616 ∧ RSt w' f g c N l r' fa fr t a' R er' ∧ Fr (FR f c R) w w' ∧ r ≤ r' ∧ r' ≤ r + C ∧ Came fa r a r' x a' er' F
set_option maxHeartbeats 1000000 in
set_option maxRecDepth 100000 in
theorem blockT_ok (h : RSt w f g c N l r fa fr t a R er) (hr : r < 100000) (hx : ∀ z ∈ l, z < 256) : Calls Tryz.prog 69 #[.pointer (some ⟨R, 0, none⟩)] w (WR f g c N l r fa fr t a R 1 (btF l t a er) w) := by
  have HB := Lib.hid (nextB_ok h hr hx)
  have c0 : w.cell? ⟨R, 0, none⟩ = some (.pointer (some ⟨c, 0, none⟩)) := h.rd.cell 0
  have HK := Lib.hid (fun (x : Nat) W => blockType_ok (x : Int) W)
  have HM := Lib.hid (fun (a' er' r' : Nat) W (hs : RSt W f g c N l r' fa fr t a' R er') => meet_ok hs 4)
  clear h
  unfold WR
  go_enter Tryz.func69, Tryz.ntmps69
  go_upto_region 2 with (go_at_call 96; refine HB.out.mono ?_; rintro e w1 ⟨x, a', er', r', rfl, hx2, hs, hf, q1, q2, hc⟩; have H1 := Lib.hid hs; have HF1 := Lib.hid hf; have HC := Lib.hid hc; clear hs hf hc)
  by_cases hb : bkB (x : Int) = true
  · go_wp2_with (go_at_call 56; refine (HK.out x _).mono ?_; rw [hb]; rintro e w2 ⟨rfl, rfl⟩)
    go_ret
    refine ⟨x, a', er', r', rfl, by omega, H1.out, HF1.out, q1, q2, ?_⟩
    rcases HC.out with h | ⟨e, k⟩
    · exact .inl h
    · refine .inr ⟨?_, k⟩
      unfold btF
      rw [← e]
      simp only [hb, if_true]
  · have hb' : bkB (x : Int) = false := by simpa using hb
    have HM1 := Lib.hid (HM.out _ _ _ _ H1.out)
    go_wp2_with (first
      | (go_at_call 56; refine (HK.out x _).mono ?_; rw [hb']; rintro e w2 ⟨rfl, rfl⟩)
      | (go_at_call 99; refine HM1.out.mono ?_; rintro e w2 ⟨rfl, hs, hf⟩; have H2 := Lib.hid hs; have HF2 := Lib.hid hf; clear hs hf))
    go_ret
    refine ⟨x, a', _, r', rfl, by omega, H2.out, HF1.out.trans HF2.out.oR, q1, q2, ?_⟩
    have h := came_meet 4 (by decide) HC.out
    rcases HC.out with h' | ⟨e, k⟩
    · rcases h with h | h
      · exact .inl h
      · exact .inl ⟨by rw [if_neg (by omega)]; exact h'.1, h'.2⟩
    · have e2 : btF l t a er = ((byF l t a er).1, (byF l t a er).2.1, if (byF l t a er).2.2 = 0 then 4 else (byF l t a er).2.2) := by
        unfold btF
        rw [← e]
        simp only [hb', Bool.false_eq_true, if_false]
      rw [e2]
      exact h
end
end Go.Proofs.YtggfaalodojjkaaGreatDoor
namespace Go.Proofs.YtggfaalodojjkaaGreatDoor
open Go.RowKit
set_option linter.unusedVariables false
set_option linter.unusedSimpArgs false
/-- a word, read with a sign -/
def wdF (l : List Nat) (t : Nat) (k : Int) (a er : Nat) : Nat × Nat × Nat := (Wd.cut k (wu (sgF l t k a er).1), (sgF l t k a er).2)
theorem wdF_er (l : List Nat) (t : Nat) (k : Int) (a er : Nat) (h : er ≠ 0) : (wdF l t k a er).2.2 = er := sgF_er l t k a er h
theorem cut_lt (k : Int) (a : Nat) (h : a < 18446744073709551616) : Wd.cut k a < 18446744073709551616 := by
  unfold Wd.cut
  split <;> omega
section
variable {w w' : World} {f g c N : Nat} {l : List Nat} {r : Nat} {fa : Int} {fr t a R er : Nat}
set_option maxHeartbeats 1000000 in
set_option maxRecDepth 100000 in
theorem wordc_ok (h : RSt w f g c N l r fa fr t a R er) (hr : r < 100000) (B1 B2 : Nat) (k : Int) (h1 : Blk w B1 125 #[.pointer (some ⟨R, 0, none⟩)]) (h2 : Blk w B2 3 #[.int .i64 k]) :
    Calls Tryz.prog 106 #[.pointer (some ⟨B1, 0, none⟩), .pointer (some ⟨B2, 0, none⟩)] w (NumQS f g c N l r fa fr t a k w) := by
  have c0 : w.cell? ⟨B1, 0, none⟩ = some (.pointer (some ⟨R, 0, none⟩)) := h1.cell 0
  have c1 : w.cell? ⟨B2, 0, none⟩ = some (.int .i64 k) := h2.cell 0
  have c2 : w.cell? ⟨R, 0, none⟩ = some (.pointer (some ⟨c, 0, none⟩)) := h.rd.cell 0
  have HN := Lib.hid (fun q => qSigned (w.drewN q) f g c N l r fa fr t a k (h.st.drewN q) hr)
  unfold NumQS at HN ⊢
  clear h h1 h2
  go_enter Tryz.func106, Tryz.ntmps106
  go_wp2
  go_region_with (go_at_call 107; refine (HN.out 1).mono ?_; rintro e w' ⟨x, y, r', a', rfl, h1, h2, h3, h4, h5⟩; have H1 := Lib.hid h1; have H2 := Lib.hid h2; have H5 := Lib.hid h5; clear h1 h2 h5)
  all_goals
    go_wp2
    go_ret2
    exact ⟨x, y, r', a', rfl, H1.out, H2.out.undrewN, h3, h4, H5.out⟩
set_option maxHeartbeats 2000000 in
set_option maxRecDepth 100000 in
theorem word_ok (h : RSt w f g c N l r fa fr t a R er) (hr : r < 100000) (k : Int) (hk : k = 32 ∨ k = 64) : Calls Tryz.prog 73 #[.pointer (some ⟨R, 0, none⟩), .int .i64 k] w (WR f g c N l r fa fr t a R 11 (wdF l t k a er) w) := by
  obtain ⟨W, hW⟩ : ∃ W, W = (w.alloc (.cells #[.pointer (some ⟨R, 0, none⟩)] 125)).alloc (.cells #[.int .i64 k] 3) := ⟨_, rfl⟩
  have hf0 : Fr (fun _ => False) w W := by rw [hW]; exact ((Fr.refl _ w).alloc _).alloc _
  have hb1 : Blk W w.heap.size 125 #[.pointer (some ⟨R, 0, none⟩)] := by rw [hW]; exact (Blk.new w 125 _).alloc _
  have hb2 : Blk W (w.heap.size + 1) 3 #[.int .i64 k] := by rw [hW]; exact heap2 w _ _
  have h0 := h.new hf0
  have c0 : W.cell? ⟨w.heap.size, 0, none⟩ = some (.pointer (some ⟨R, 0, none⟩)) := hb1.cell 0
  have HW := Lib.hid hW
  have HF0 := Lib.hid hf0
  have H0 := Lib.hid h0
  have HB2 := Lib.hid hb2
  have hnew : Hid (∀ w1, Fr (FR f c R) W w1 → w1.cell? ⟨w.heap.size + 1, 0, none⟩ = some (.int .i64 k)) := Lib.hid (fun w1 hf => (hb2.fr hf (by
    rintro (e | e | e)
    · have := h.st.fl.blk.lt; omega
    · have := h.st.cu.lt; omega
    · have := h.rd.lt; omega)).cell 0)
  have HC := Lib.hid (wordc_ok h0 hr w.heap.size (w.heap.size + 1) k hb1 hb2)
  have hN : Calls Tryz.prog 105 #[.pointer (some ⟨R, 0, none⟩), .func (.func 106) #[] #[.pointer (some ⟨w.heap.size, 0, none⟩), .pointer (some ⟨w.heap.size + 1, 0, none⟩)]] W (fun e w' => ∃ (x : Int) (a' er' r' : Nat), e = .returned (.int .i64 x) ∧ RSt w' f g c N l r' fa fr t a' R er' ∧ Fr (FR f c R) W w' ∧ r ≤ r' ∧ r' ≤ r + 11 ∧ Came fa r a r' x a' er' (sgF l t k a er)) := by
    have c1 : W.cell? ⟨R, 1, none⟩ = some (.int .i64 er) := h0.rd.cell 1
    clear h hW hb1 hb2 c0 hf0 h0 HF0 HW hnew HB2
    unfold NumQS at HC
    by_cases he : er = 0
    case neg =>
      have hq : (((er : Nat) : Int) != 0) = true := by rw [bne_iff_ne]; omega
      go_enter Tryz.func105, Tryz.ntmps105
      go_wp2
      go_ret
      exact ⟨0, a, er, r, rfl, H0.out, Fr.refl _ _, Nat.le_refl _, by omega, came_old he (by unfold sgF; rw [if_neg he])⟩
    subst he
    go_enter Tryz.func105, Tryz.ntmps105
    go_wp2_with (first
      | (go_at_call 106; refine HC.out.mono ?_; rintro e w1 ⟨x, y, r', a', rfl, hs, hf, h3, h4, h5⟩; have H1 := Lib.hid (H0.out.after hs hf); have HF1 := Lib.hid hf; have H5 := Lib.hid h5; have HM := Lib.hid (meet0 (H0.out.after hs hf) y); clear hs hf h5)
      | (go_at_call 99; refine HM.out.mono ?_; rintro e w2 ⟨rfl, hs, hf⟩; have H2 := Lib.hid hs; have HF2 := Lib.hid hf; clear hs hf))
    go_ret
    refine ⟨x, a', y, r', rfl, H2.out, HF1.out.fcR.trans HF2.out.oR, h3, h4, ?_⟩
    rcases H5.out with ⟨e1, e2, e3, e4, e5⟩ | ⟨e1, e2, e3, e4⟩
    · exact .inl ⟨e1, e4, e5⟩
    · refine .inr ⟨?_, e4⟩
      unfold sgF rest
      rw [if_pos rfl, e1, e2, e3]
  have HN := Lib.hid hN
  unfold WR
  clear hN h hW hb1 hb2 hf0 h0
  have HCut := Lib.hid (fun (x : Nat) W => WCut_any 32 x W)
  go_enter Tryz.func73, Tryz.ntmps73
  go_upto_region 1 with fail
  rw [← HW.out]
  go_upto_region 2 with (go_at_call 105; refine HN.out.mono ?_; rintro e w1 ⟨x, a', er', r', rfl, q2, q3, q4, q5, q6⟩; have H1 := Lib.hid (And.intro q2 (And.intro q3 q6)); have d1 := hnew.out w1 q3; clear q2 q3 q6)
  rw [(wu_eq x).1]
  have hwu := (wu_eq x).2
  have HX := Lib.hid (rfl : wu x = wu x)
  obtain ⟨z, hz⟩ : ∃ z, z = wu x := ⟨_, rfl⟩
  rw [← hz] at hwu ⊢
  have HZ := Lib.hid hz
  have hcm : Came fa r a r' (Wd.cut k z) a' er' (wdF l t k a er) := by
    rcases H1.out.2.2 with q | ⟨e, q⟩
    · exact .inl q
    · refine .inr ⟨?_, q⟩
      unfold wdF
      rw [← e, hz]
  have HCM := Lib.hid hcm
  clear hz hcm HX
  rcases hk with rfl | rfl
  · have hW32 : Calls Tryz.prog 108 #[.int .u64 z] w1 fun e w' => e = .returned (.int .u64 ((Wd.cut 32 z : Nat) : Int)) ∧ w1 = w' := by
      have H := Lib.hid (WCut_any 32 z w1)
      go_enter Tryz.func108, Tryz.ntmps108
      go_wp2_with (go_at_call 130; refine H.out.mono ?_; rintro e w2 ⟨rfl, rfl⟩)
      go_ret
      exact ⟨rfl, rfl⟩
    have HW32 := Lib.hid hW32
    clear hW32
    go_wp2_with (go_at_call 108; refine HW32.out.mono ?_; rintro e w2 ⟨rfl, rfl⟩)
    go_ret
    exact ⟨Wd.cut 32 z, a', er', r', rfl, cut_lt _ _ hwu, H1.out.1, (HF0.out.more (fun q e => e.elim)).trans H1.out.2.1, q4, q5, HCM.out⟩
  · go_wp2
    go_ret
    exact ⟨z, a', er', r', rfl, hwu, H1.out.1, (HF0.out.more (fun q e => e.elim)).trans H1.out.2.1, q4, q5, HCM.out⟩
end
end Go.Proofs.YtggfaalodojjkaaGreatDoor
namespace Go.Proofs.YtggfaalodojjkaaGreatDoor
open Go.RowKit
set_option linter.unusedVariables false
set_option linter.unusedSimpArgs false
theorem rdE9 (n : Nat) : ∀ (t : List Nat) (i : Nat), (Leb.rdE n t i).2 = 0 ∨ (Leb.rdE n t i).2 = 3 ∨ (Leb.rdE n t i).2 = 4
  | [], _ => .inr (.inl rfl)
  | c :: t, i => by
    unfold Leb.rdE
    split
    · exact .inr (.inr rfl)
    · split
      · exact .inl rfl
      · exact rdE9 n t (i + 1)
theorem uns9 (l : List Nat) (k : Int) : (Leb.uns l k).2.2 ≠ 9 := by
  have := rdE9 k.toNat l 0
  unfold Leb.uns
  split
  · simp
  · split
    · split <;> simp
    · dsimp only; omega
theorem sgn9 (l : List Nat) (k : Int) : (Leb.sgn l k).2.2 ≠ 9 := by
  have := rdE9 k.toNat l 0
  unfold Leb.sgn
  split
  · simp
  · split
    · split <;> simp
    · dsimp only; omega
/-- what a reader's steps keep: an error that is a failed read's is one, and while there is none nothing failed -/
def RI (f g c N : Nat) (l : List Nat) (fr t R : Nat) (fa : Int) (a0 m : Nat) (w : World) : Prop :=
  ∃ r a er : Nat, RSt w f g c N l r fa fr t a R er ∧ (er = 0 → a0 ≤ a ∧ (r : Int) ≤ fa) ∧ (er = 9 → fa < (r : Int)) ∧ r ≤ m
section
variable {w w' : World} {f g c N : Nat} {l : List Nat} {fa : Int} {fr t R a0 m : Nat}
theorem RI.fr_ {S : Nat → Prop} (h : RI f g c N l fr t R fa a0 m w) (hf : Fr S w w') (h1 : ¬ S f) (h2 : ¬ S g) (h3 : ¬ S c) (h4 : ¬ S R) : RI f g c N l fr t R fa a0 m w' := by
  obtain ⟨r, a, er, h, q⟩ := h
  exact ⟨r, a, er, h.fr_ hf h1 h2 h3 h4, q⟩
theorem RI.new (h : RI f g c N l fr t R fa a0 m w) (hf : Fr (fun _ => False) w w') : RI f g c N l fr t R fa a0 m w' := h.fr_ hf (fun q => q) (fun q => q) (fun q => q) (fun q => q)
theorem RI.drewN (h : RI f g c N l fr t R fa a0 m w) (k : Nat) : RI f g c N l fr t R fa a0 m (w.drewN k) := by
  obtain ⟨r, a, er, h, q⟩ := h
  exact ⟨r, a, er, h.drewN k, q⟩
theorem RI.undrewN {k : Nat} (h : RI f g c N l fr t R fa a0 m (w.drewN k)) : RI f g c N l fr t R fa a0 m w := by
  obtain ⟨r, a, er, h, q⟩ := h
  exact ⟨r, a, er, h.fr_ (S := fun _ => False) ⟨rfl, rfl, rfl, Nat.le_refl _, fun _ _ _ => rfl⟩ (fun q => q) (fun q => q) (fun q => q) (fun q => q), q⟩
theorem RI.more {m' : Nat} (h : RI f g c N l fr t R fa a0 m w) (hm : m ≤ m') : RI f g c N l fr t R fa a0 m' w := by
  obtain ⟨r, a, er, h, q1, q2, q3⟩ := h
  exact ⟨r, a, er, h, q1, q2, by omega⟩
theorem RI.lt (h : RI f g c N l fr t R fa a0 m w) : f < w.heap.size ∧ g < w.heap.size ∧ c < w.heap.size ∧ R < w.heap.size := by
  obtain ⟨r, a, er, h, q⟩ := h
  exact ⟨h.st.fl.blk.lt, h.st.fl.byt.lt, h.st.cu.lt, h.rd.lt⟩
theorem RI.step {α : Type} {x : α} {r a er r' a' er' C : Nat} {F : α × Nat × Nat} (k0 : er = 0 → a0 ≤ a ∧ (r : Int) ≤ fa) (k9 : er = 9 → fa < (r : Int)) (hm : r ≤ m) (hs : RSt w' f g c N l r' fa fr t a' R er') (hc : Came fa r a r' x a' er' F) (h0 : 0 ≤ fa)
    (q1 : r ≤ r') (q2 : r' ≤ r + C) (hF : er ≠ 0 → F.2.2 = er) (h9 : er = 0 → F.2.2 ≠ 9) : RI f g c N l fr t R fa a0 (m + C) w' := by
  refine ⟨r', a', er', hs, ?_, ?_, by omega⟩
  · intro e
    rcases hc with ⟨e2, _⟩ | ⟨e2, k⟩
    · omega
    · have e3 : er' = F.2.2 := by rw [← e2]
      have he : er = 0 := by
        rcases Nat.eq_zero_or_pos er with z | z
        · exact z
        · have := hF (by omega); omega
      have := k0 he
      have := k e
      omega
  · intro e
    rcases hc with ⟨_, _, k⟩ | ⟨e2, k⟩
    · exact k
    · have e3 : er' = F.2.2 := by rw [← e2]
      by_cases he : er = 0
      · exact absurd (e3.symm.trans e) (h9 he)
      · have := hF he
        have := k9 (by omega)
        omega
/-- what a step that answers a word leaves -/
def WI (f g c N : Nat) (l : List Nat) (fr t R : Nat) (fa : Int) (a0 m : Nat) (w : World) (e : Ending) (w' : World) : Prop :=
  ∃ x : Nat, e = .returned (.int .u64 x) ∧ x < 18446744073709551616 ∧ RI f g c N l fr t R fa a0 m w' ∧ Fr (FR f c R) w w'
theorem number_i (h : RI f g c N l fr t R fa a0 m w) (h0 : 0 ≤ fa) (hm : m < 100000) (k : Int) : Calls Tryz.prog 71 #[.pointer (some ⟨R, 0, none⟩), .int .i64 k] w (WI f g c N l fr t R fa a0 (m + 11) w) := by
  obtain ⟨r, a, er, h, k0, k9, k1⟩ := h
  refine (number_ok h (by omega) k).mono ?_
  rintro e w' ⟨x, a', er', r', rfl, hx, hs, hf, q1, q2, hc⟩
  refine ⟨x, rfl, hx, RI.step k0 k9 k1 hs hc h0 q1 q2 (nuF_er l t k a er) (fun z => ?_), hf⟩
  subst z
  exact uns9 _ _
theorem word_i (h : RI f g c N l fr t R fa a0 m w) (h0 : 0 ≤ fa) (hm : m < 100000) (k : Int) (hk : k = 32 ∨ k = 64) : Calls Tryz.prog 73 #[.pointer (some ⟨R, 0, none⟩), .int .i64 k] w (WI f g c N l fr t R fa a0 (m + 11) w) := by
  obtain ⟨r, a, er, h, k0, k9, k1⟩ := h
  refine (word_ok h (by omega) k hk).mono ?_
  rintro e w' ⟨x, a', er', r', rfl, hx, hs, hf, q1, q2, hc⟩
  refine ⟨x, rfl, hx, RI.step k0 k9 k1 hs hc h0 q1 q2 (wdF_er l t k a er) (fun z => ?_), hf⟩
  subst z
  exact sgn9 _ _
theorem byF9 (a : Nat) : (byF l t a 0).2.2 ≠ 9 := by
  unfold byF
  rw [if_pos rfl]
  split <;> simp
theorem block_i (h : RI f g c N l fr t R fa a0 m w) (h0 : 0 ≤ fa) (hm : m < 100000) (hx : ∀ z ∈ l, z < 256) : Calls Tryz.prog 69 #[.pointer (some ⟨R, 0, none⟩)] w (WI f g c N l fr t R fa a0 (m + 11) w) := by
  obtain ⟨r, a, er, h, k0, k9, k1⟩ := h
  refine (blockT_ok h (by omega) hx).mono ?_
  rintro e w' ⟨x, a', er', r', rfl, hx, hs, hf, q1, q2, hc⟩
  refine ⟨x, rfl, hx, RI.step k0 k9 k1 hs hc h0 q1 (by omega) (btF_er l t a er) (fun z => ?_), hf⟩
  subst z
  have := byF9 (l := l) (t := t) a
  unfold btF
  split
  · exact this
  · dsimp only
    split <;> omega
theorem meet_i (h : RI f g c N l fr t R fa a0 m w) (e : Nat) (he : e ≠ 0) (h9 : e ≠ 9) : Calls Tryz.prog 99 #[.pointer (some ⟨R, 0, none⟩), .int .i64 e] w fun x w' => x = .returned (.tuple #[]) ∧ RI f g c N l fr t R fa a0 m w' ∧ Fr (FR f c R) w w' := by
  obtain ⟨r, a, er, h, k0, k9, k1⟩ := h
  refine (meet_ok h e).mono ?_
  rintro x w' ⟨rfl, hs, hf⟩
  refine ⟨rfl, ⟨r, a, _, hs, fun q => ?_, fun q => ?_, k1⟩, hf.oR⟩
  · split at q
    · exact absurd q he
    · rename_i hn; exact absurd q hn
  · split at q
    · exact absurd q h9
    · exact k9 q
/-- the first byte: behind it the cursor stands further -/
theorem first_i {r a : Nat} (h : RSt w f g c N l r fa fr t a R 0) (hr : (r : Int) ≤ fa) (h0 : 0 ≤ fa) (hm : r < 100000) (hx : ∀ z ∈ l, z < 256) : Calls Tryz.prog 96 #[.pointer (some ⟨R, 0, none⟩), .func (.func 97) #[.pointer (some ⟨c, 0, none⟩)] #[]] w (fun e w' => ∃ x : Nat, e = .returned (.int .u8 x) ∧ x < 256 ∧ RI f g c N l fr t R fa (a + 1) (r + 1) w' ∧ Fr (FR f c R) w w') := by
  refine (nextB_ok h hm hx).mono ?_
  rintro e w' ⟨x, a', er', r', rfl, hx, hs, hf, q1, q2, hc⟩
  refine ⟨x, rfl, hx, ⟨r', a', er', hs, fun q => ?_, fun q => ?_, q2⟩, hf⟩
  · rcases hc with ⟨e2, _⟩ | ⟨e2, k⟩
    · omega
    · subst q
      have := k rfl
      unfold byF at e2
      rw [if_pos rfl] at e2
      split at e2
      · simp only [Prod.mk.injEq] at e2; omega
      · simp only [Prod.mk.injEq] at e2; omega
  · rcases hc with ⟨_, _, k⟩ | ⟨e2, k⟩
    · exact k
    · subst q
      exact absurd (by rw [← e2]) (byF9 (l := l) (t := t) a)
end
end Go.Proofs.YtggfaalodojjkaaGreatDoor
namespace Go.Proofs.YtggfaalodojjkaaGreatDoor
open Go.RowKit
set_option linter.unusedVariables false
set_option linter.unusedSimpArgs false
theorem own_frB {S : Nat → Prop} {w w' : World} {B E sz n : Nat} {v : Value} {xs : List Value} (h : w.ownsRow B E sz v n xs) (hf : Fr S w w') (hS : ∀ q, B ≤ q → ¬ S q) : w'.ownsRow B E sz v n xs :=
  ⟨h.1, h.2.imp id fun ⟨g, cap, cur, e, h1, h2, h3⟩ => ⟨g, cap, cur, e, h1, hf.keep h2 (hS g h1), h3⟩⟩
theorem own_ge {w : World} {B E sz n k : Nat} {v : Value} {xs : List Value} (h : w.ownsRow B E sz v n xs) (hk : v.ownBlock = some k) : B ≤ k := by
  rcases h.2 with ⟨e, _⟩ | ⟨g, cap, cur, e, hg, _⟩
  · rw [e] at hk; cases hk
  · rw [e] at hk; cases hk; exact hg
theorem own_shape {w : World} {B E sz n : Nat} {v : Value} {xs : List Value} (h : w.ownsRow B E sz v n xs) : ∃ A m c, v = .slice A m c := by
  rcases h.2 with ⟨e, _⟩ | ⟨g, cap, cur, e, _⟩
  · exact ⟨_, _, _, e⟩
  · exact ⟨_, _, _, e⟩
section
variable {w w' : World} {f g c N : Nat} {l : List Nat} {fa : Int} {fr t R a0 m : Nat}
end
end Go.Proofs.YtggfaalodojjkaaGreatDoor
namespace Go.Proofs.YtggfaalodojjkaaGreatDoor
open Go.RowKit
set_option linter.unusedVariables false
set_option linter.unusedSimpArgs false
/-- a reader of a flash that doesn't fail: where it stands, its error -/
def XI (f g c N : Nat) (l : List Nat) (fr t R a er m : Nat) (w : World) : Prop := ∃ r : Nat, RSt w f g c N l r (-1) fr t a R er ∧ r ≤ m
theorem came_eq {α : Type} {r a r' a' er' : Nat} {x : α} {F : α × Nat × Nat} (h : Came (-1) r a r' x a' er' F) : (x, a', er') = F := by
  rcases h with ⟨_, h0, _⟩ | ⟨h, _⟩
  · omega
  · exact h
section
variable {w w' : World} {f g c N : Nat} {l : List Nat} {fr t R a er m : Nat}
theorem XI.fr_ {S : Nat → Prop} (h : XI f g c N l fr t R a er m w) (hf : Fr S w w') (h1 : ¬ S f) (h2 : ¬ S g) (h3 : ¬ S c) (h4 : ¬ S R) : XI f g c N l fr t R a er m w' := by
  obtain ⟨r, h, q⟩ := h
  exact ⟨r, h.fr_ hf h1 h2 h3 h4, q⟩
theorem XI.new (h : XI f g c N l fr t R a er m w) (hf : Fr (fun _ => False) w w') : XI f g c N l fr t R a er m w' := h.fr_ hf (fun q => q) (fun q => q) (fun q => q) (fun q => q)
theorem XI.drewN (h : XI f g c N l fr t R a er m w) (k : Nat) : XI f g c N l fr t R a er m (w.drewN k) := by
  obtain ⟨r, h, q⟩ := h
  exact ⟨r, h.drewN k, q⟩
theorem XI.more {m' : Nat} (h : XI f g c N l fr t R a er m w) (hm : m ≤ m') : XI f g c N l fr t R a er m' w := by
  obtain ⟨r, h, q⟩ := h
  exact ⟨r, h, by omega⟩
theorem XI.lt (h : XI f g c N l fr t R a er m w) : f < w.heap.size ∧ g < w.heap.size ∧ c < w.heap.size ∧ R < w.heap.size := by
  obtain ⟨r, h, q⟩ := h
  exact ⟨h.st.fl.blk.lt, h.st.fl.byt.lt, h.st.cu.lt, h.rd.lt⟩
/-- what a step that answers a word comes to -/
def XW (f g c N : Nat) (l : List Nat) (fr t R m : Nat) (F : Nat × Nat × Nat) (w : World) (e : Ending) (w' : World) : Prop :=
  e = .returned (.int .u64 F.1) ∧ XI f g c N l fr t R F.2.1 F.2.2 m w' ∧ Fr (FR f c R) w w'
theorem number_x (h : XI f g c N l fr t R a er m w) (hm : m < 100000) (k : Int) : Calls Tryz.prog 71 #[.pointer (some ⟨R, 0, none⟩), .int .i64 k] w (XW f g c N l fr t R (m + 11) (nuF l t k a er) w) := by
  obtain ⟨r, h, k1⟩ := h
  refine (number_ok h (by omega) k).mono ?_
  rintro e w' ⟨x, a', er', r', rfl, hx, hs, hf, q1, q2, hc⟩
  rw [← came_eq hc]
  exact ⟨rfl, ⟨r', hs, by omega⟩, hf⟩
theorem word_x (h : XI f g c N l fr t R a er m w) (hm : m < 100000) (k : Int) (hk : k = 32 ∨ k = 64) : Calls Tryz.prog 73 #[.pointer (some ⟨R, 0, none⟩), .int .i64 k] w (XW f g c N l fr t R (m + 11) (wdF l t k a er) w) := by
  obtain ⟨r, h, k1⟩ := h
  refine (word_ok h (by omega) k hk).mono ?_
  rintro e w' ⟨x, a', er', r', rfl, hx, hs, hf, q1, q2, hc⟩
  rw [← came_eq hc]
  exact ⟨rfl, ⟨r', hs, by omega⟩, hf⟩
theorem block_x (h : XI f g c N l fr t R a er m w) (hm : m < 100000) (hx : ∀ z ∈ l, z < 256) : Calls Tryz.prog 69 #[.pointer (some ⟨R, 0, none⟩)] w (XW f g c N l fr t R (m + 11) (btF l t a er) w) := by
  obtain ⟨r, h, k1⟩ := h
  refine (blockT_ok h (by omega) hx).mono ?_
  rintro e w' ⟨x, a', er', r', rfl, hx, hs, hf, q1, q2, hc⟩
  rw [← came_eq hc]
  exact ⟨rfl, ⟨r', hs, by omega⟩, hf⟩
/-- an error met -/
def mtE (er e : Nat) : Nat := if er = 0 then e else er
theorem meet_x (h : XI f g c N l fr t R a er m w) (e : Nat) : Calls Tryz.prog 99 #[.pointer (some ⟨R, 0, none⟩), .int .i64 e] w fun x w' => x = .returned (.tuple #[]) ∧ XI f g c N l fr t R a (mtE er e) m w' ∧ Fr (FR f c R) w w' := by
  obtain ⟨r, h, k1⟩ := h
  refine (meet_ok h e).mono ?_
  rintro x w' ⟨rfl, hs, hf⟩
  exact ⟨rfl, ⟨r, hs, k1⟩, hf.oR⟩
theorem byte_x (h : XI f g c N l fr t R a er m w) (hm : m < 100000) (hx : ∀ z ∈ l, z < 256) : Calls Tryz.prog 96 #[.pointer (some ⟨R, 0, none⟩), .func (.func 97) #[.pointer (some ⟨c, 0, none⟩)] #[]] w (fun e w' => e = .returned (.int .u8 (byF l t a er).1) ∧ XI f g c N l fr t R (byF l t a er).2.1 (byF l t a er).2.2 (m + 1) w' ∧ Fr (FR f c R) w w') := by
  obtain ⟨r, h, k1⟩ := h
  refine (nextB_ok h (by omega) hx).mono ?_
  rintro e w' ⟨x, a', er', r', rfl, hx, hs, hf, q1, q2, hc⟩
  rw [← came_eq hc]
  exact ⟨rfl, ⟨r', hs, by omega⟩, hf⟩
theorem nuF_lt (l : List Nat) (t : Nat) (k : Int) (a er : Nat) : (nuF l t k a er).1 < 18446744073709551616 := by
  unfold nuF
  split
  · have := Leb.uns_lt (rest l t a) k
    omega
  · show (0 : Nat) < _
    omega
theorem nuF_32 (l : List Nat) (t a er : Nat) : (nuF l t 32 a er).1 < 4294967296 := by
  unfold nuF
  split
  · unfold Leb.uns
    split
    · show (0 : Nat) < _
      omega
    · split
      · split
        · rename_i h; exact h
        · show (0 : Nat) < _
          omega
      · show (0 : Nat) < _
        omega
  · show (0 : Nat) < _
    omega
/-- what access comes to -/
def acE (n er : Nat) : Nat := if 31 < n then mtE er 4 else er
def acF (l : List Nat) (t a er : Nat) : (Nat × Nat × Nat) × Nat × Nat :=
  if 64 ≤ (nuF l t 32 a er).1 then
    (((nuF l t 32 a er).1 - 64, (nuF l t 32 (nuF l t 32 a er).2.1 (acE ((nuF l t 32 a er).1 - 64) (nuF l t 32 a er).2.2)).1, (nuF l t 64 (nuF l t 32 (nuF l t 32 a er).2.1 (acE ((nuF l t 32 a er).1 - 64) (nuF l t 32 a er).2.2)).2.1 (nuF l t 32 (nuF l t 32 a er).2.1 (acE ((nuF l t 32 a er).1 - 64) (nuF l t 32 a er).2.2)).2.2).1),
      (nuF l t 64 (nuF l t 32 (nuF l t 32 a er).2.1 (acE ((nuF l t 32 a er).1 - 64) (nuF l t 32 a er).2.2)).2.1 (nuF l t 32 (nuF l t 32 a er).2.1 (acE ((nuF l t 32 a er).1 - 64) (nuF l t 32 a er).2.2)).2.2).2)
  else (((nuF l t 32 a er).1, 0, (nuF l t 64 (nuF l t 32 a er).2.1 (acE (nuF l t 32 a er).1 (nuF l t 32 a er).2.2)).1), (nuF l t 64 (nuF l t 32 a er).2.1 (acE (nuF l t 32 a er).1 (nuF l t 32 a er).2.2)).2)
/-- what labels come to -/
def lbK (l : List Nat) (t : Nat) : Nat → Nat → Nat → List Nat × Nat × Nat
  | 0, a, er => ([], a, er)
  | k + 1, a, er => ((lbK l t k a er).1 ++ [(nuF l t 32 (lbK l t k a er).2.1 (lbK l t k a er).2.2).1], (nuF l t 32 (lbK l t k a er).2.1 (lbK l t k a er).2.2).2)
def lbF (l : List Nat) (t a er : Nat) : List Nat × Nat × Nat :=
  if 100 < (nuF l t 32 a er).1 then ([], (nuF l t 32 a er).2.1, mtE (nuF l t 32 a er).2.2 15) else lbK l t (nuF l t 32 a er).1 (nuF l t 32 a er).2.1 (nuF l t 32 a er).2.2
end
end Go.Proofs.YtggfaalodojjkaaGreatDoor
