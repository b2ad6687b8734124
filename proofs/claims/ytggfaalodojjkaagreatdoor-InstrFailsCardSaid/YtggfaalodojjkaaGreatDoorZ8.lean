/-
  flash.Cursor's Unsigned and Signed, with what is known of reads where they answer a number.
-/
import Derived.Test.YtggfaalodojjkaaGreatDoorZ2
import Derived.Deep.RegionHeld3
import Derived.Test.YtggfaalodojjkaaGreatDoorZ7
import Derived.Test.YtggfaalodojjkaaGreatDoorZ3
namespace Go.Proofs.YtggfaalodojjkaaGreatDoor
open Go.RowKit
set_option linter.unusedVariables false
set_option linter.unusedSimpArgs false
def NumQ (f g c N : Nat) (l : List Nat) (r : Nat) (fa : Int) (fr t a : Nat) (k : Int) (w : World) (e : Ending) (w' : World) : Prop :=
  ∃ (x y r' a' : Nat), e = .returned (.tuple #[.int .u64 x, .int .i64 y]) ∧ St w' f g c N l r' fa fr t a' ∧ Fr (FC f c) w w' ∧ r ≤ r' ∧ r' ≤ r + 11 ∧
    ((y = 9 ∧ x = 0 ∧ a' = a ∧ 0 ≤ fa ∧ fa < r') ∨ (x = (Leb.uns ((l.drop a).take (t - a)) k).1 ∧ y = (Leb.uns ((l.drop a).take (t - a)) k).2.2 ∧ a' = a + (Leb.uns ((l.drop a).take (t - a)) k).2.1 ∧ (y = 0 → (fa < 0 ∨ (r' : Int) ≤ fa) ∧ r' + a = r + a')))
def NumQS (f g c N : Nat) (l : List Nat) (r : Nat) (fa : Int) (fr t a : Nat) (k : Int) (w : World) (e : Ending) (w' : World) : Prop :=
  ∃ (x : Int) (y r' a' : Nat), e = .returned (.tuple #[.int .i64 x, .int .i64 y]) ∧ St w' f g c N l r' fa fr t a' ∧ Fr (FC f c) w w' ∧ r ≤ r' ∧ r' ≤ r + 11 ∧
    ((y = 9 ∧ x = 0 ∧ a' = a ∧ 0 ≤ fa ∧ fa < r') ∨ (x = (Leb.sgn ((l.drop a).take (t - a)) k).1 ∧ y = (Leb.sgn ((l.drop a).take (t - a)) k).2.2 ∧ a' = a + (Leb.sgn ((l.drop a).take (t - a)) k).2.1 ∧ (y = 0 → (fa < 0 ∨ (r' : Int) ≤ fa) ∧ r' + a = r + a')))
set_option maxHeartbeats 2000000 in
set_option maxRecDepth 100000 in
theorem numq_u64 (w : World) (f g c N : Nat) (l : List Nat) (r : Nat) (fa : Int) (fr t a : Nat) (k : Int) (h : St w f g c N l r fa fr t a) (hr : r < 100000) :
    Calls Tryz.prog 126 #[.pointer (some ⟨c, 0, none⟩), .int .i64 k, .func (.func 127) #[] #[]] w (NumQ f g c N l r fa fr t a k w) := by
  obtain ⟨i0, hi, hz0, hz1, hz2⟩ := info_parts info5
  have c0 : w.cell? ⟨c, 0, none⟩ = some (.pointer (some ⟨f, 0, none⟩)) := h.cu.cell 0
  have c1 : w.cell? ⟨c, 1, none⟩ = some (.int .i64 fr) := h.cu.cell 1
  have c2 : w.cell? ⟨c, 2, none⟩ = some (.int .i64 t) := h.cu.cell 2
  have c3 : w.cell? ⟨c, 3, none⟩ = some (.int .i64 a) := h.cu.cell 3
  obtain ⟨R, hR⟩ : ∃ R, R = (l.drop a).take (t - a) := ⟨_, rfl⟩
  have hRl : Hid (R.length = t - a) := Lib.hid (by rw [hR, List.length_take, List.length_drop]; have := h.fl.len; have := h.h3; omega)
  have H0 : Hid (NRel w f g c N l r fa fr t a w.heap.size 0 none 0 (w.alloc (.cells (cuC f fr t a) 87))) := Lib.hid (by
    have hn := Blk.new w 87 (cuC f fr t a)
    exact ⟨⟨⟨h.fl.blk.alloc _, h.fl.byt.alloc _, h.fl.len, h.fl.lim, h.fl.all⟩, h.cu.alloc _, h.h1, h.h2, h.h3⟩, hn, (Fr.refl _ _).alloc _, by simpa using World.ownsRow_nil _ _ _ _, rfl, by simp, by omega, h.cu.lt, h.fl.blk.lt, h.fl.byt.lt⟩)
  have HRE := Lib.hid hR
  have hat := h.h2
  have htN : t ≤ 65536 := Nat.le_trans h.h3 h.fl.lim
  have hNN : Hid (l.length = N ∧ t ≤ N) := Lib.hid ⟨h.fl.len, h.h3⟩
  clear h hR
  go_enter Tryz.func126, Tryz.ntmps126
  go_wp2_with (go_at_call 127; refine (unsigned_any none 0 0 [] k _ (byt_nil _)).mono ?_; rintro e w' ⟨rfl, rfl⟩)
  go_loopw [9, 10, 12] (fun v9 v10 v12 wr => ∃ (j : Nat) (A : Option Addr) (cp : Nat) (x : Nat) (y : Nat), j ≤ t - a ∧ v9 = .slice A j cp ∧ v10 = .int .u64 x ∧ v12 = .int .i64 y ∧ Hid (x = (Leb.uns (R.take j) k).1) ∧ Hid (y = (Leb.uns (R.take j) k).2.2) ∧ Hid (0 < j → (Leb.uns (R.take (j - 1)) k).2.2 = 3) ∧ Hid (NRel w f g c N l r fa fr t a w.heap.size j A cp wr) ∧ Hid (0 < j → fa < 0 ∨ ((r + j : Nat) : Int) ≤ fa)) (fun v9 _ _ _ => t - a - lenV v9)
  case atStart => exact ⟨0, none, 0, _, _, by omega, rfl, rfl, rfl, Lib.hid rfl, Lib.hid rfl, Lib.hid (fun q => by omega), H0, Lib.hid (fun q => by omega)⟩
  case round =>
    obtain ⟨j, A, cp, x, y, hj, rfl, rfl, rfl, Hx, Hy, Hl, HN, HFj⟩ := hrel
    clear c0 c1 c2 c3
    have hRj : Hid (R.take j ++ R.drop j = R) := Lib.hid (List.take_append_drop j R)
    by_cases hy3 : y = 3
    · subst hy3
      have hj9 : j ≤ 9 := by
        have q := uns_len _ _ Hy.out.symm
        rw [List.length_take, hRl.out] at q
        omega
      have hja := HN.out.ahead hj
      by_cases hjt : j < t - a
      · by_cases hfa : fa < 0 ∨ (0 ≤ fa ∧ ((r + j : Nat) : Int) < fa)
        · have HB := Lib.hid (Byte_ok wr f g w.heap.size N l (r + j) fa fr t (a + j) hja (by omega) (by omega) hfa)
          have HFn : Hid (0 < j + 1 → fa < 0 ∨ ((r + (j + 1) : Nat) : Int) ≤ fa) := Lib.hid (fun _ => by omega)
          clear hja hfa
          obtain ⟨z, hz⟩ : ∃ z, z = l.getD (a + j) 0 := ⟨_, rfl⟩
          rw [← hz] at HB
          have HZ := Lib.hid hz
          clear hz
          have HE3 : Hid ((Leb.uns (R.take (j + 1 - 1)) k).2.2 = 3) := Lib.hid Hy.out.symm
          go_wp2_with (first
            | (go_at_call 97; refine HB.out.mono ?_; rintro e w1 ⟨rfl, hs1, hf1⟩; have HS1 := Lib.hid hs1; have HF1 := Lib.hid hf1; have HO1 : Hid (w1.ownsRow (w.heap.size + 1) 5 1 (.slice A j cp) j ((((l.drop a).take (t - a)).take j).map U8)) := Lib.hid (HN.out.own_after hf1); have hB1 : Hid (w.heap.size + 1 ≤ w1.heap.size) := Lib.hid (Nat.le_trans HN.out.hs hf1.size); clear hs1 hf1)
            | (at_builtin
               refine wpList_append_own _ rfl (.tmp 37) (.tmp 39) 27 rfl (w.heap.size + 1) 5 i0 _ 1 1 Tryz.underlying27 hi hz0 hz1 hz2 rfl (by decide) (.slice A j cp) j _ rfl (HO1.out.alloc _) ⟨w1.heap.size, 0, none⟩ 1 1 [U8 z] rfl rfl (cell_new _ _ _) ?d1 ?d2 ?d3 ?d4 ?_
               case d1 => intro u hu; simp at hu; subst hu; rfl
               case d2 => unfold maxLen; omega
               case d3 => omega
               case d4 => have := hB1.out; simp; omega
               intro v2 w2 hown2 hg2 _
               obtain ⟨g2, cp2, hv2⟩ : ∃ g2 cp2, v2 = .slice (some ⟨g2, 0, none⟩) (j + 1) cp2 := own_form hown2 (by omega)
               rw [hv2] at hown2 ⊢
               have HN2 : Hid (NRel w f g c N l r fa fr t a w.heap.size (j + 1) (some ⟨g2, 0, none⟩) cp2 w2) := Lib.hid (HN.out.next hjt hj9 HS1.out HF1.out (by rw [← HZ.out]; exact hown2) hg2)
               clear hown2 hg2 hv2)
            | (go_at_call 127; refine (unsigned_any _ _ _ (R.take (j + 1)) k _ (by rw [HRE.out]; exact HN2.out.byt)).mono ?_; rintro e w3 ⟨rfl, rfl⟩))
          go_roundw
          case rel => exact ⟨j + 1, some ⟨g2, 0, none⟩, cp2, _, _, by omega, rfl, rfl, rfl, Lib.hid rfl, Lib.hid rfl, Lib.hid (fun _ => HE3.out), HN2, HFn⟩
          case measure => simp [lenV]; omega
        · have hfa2 : 0 ≤ fa ∧ fa ≤ ((r + j : Nat) : Int) := by omega
          have HB := Lib.hid (Byte_fail wr f g w.heap.size N l (r + j) fa fr t (a + j) hja (by omega) (by omega) hfa2.1 hfa2.2)
          have HFA := Lib.hid hfa2
          clear hja hfa hfa2
          go_wp2_with (go_at_call 97; refine HB.out.mono ?_; rintro e w1 ⟨rfl, hs1, hf1⟩; have HS1 := Lib.hid hs1; have HF1 := Lib.hid hf1; clear hs1 hf1)
          go_ret2
          have hq := HN.out
          have hcu : Blk w1 c 87 (cuC f fr t a) := hq.st.cu.fr HF1.out (fun e => by
            rcases e with e | e
            · exact hq.st.fc e.symm
            · have := hq.cl; omega)
          refine ⟨0, 9, r + j + 1, a, rfl, ⟨HS1.out.fl, hcu, hq.st.h1, hq.st.h2, hq.st.h3⟩, ?_, by omega, by omega, .inl ⟨rfl, rfl, rfl, HFA.out.1, by have := HFA.out.2; omega⟩⟩
          exact (hq.fr_.more (fun i hi => .inl hi)).new_ HF1.out (fun i hi => by
            rcases hi with e | e
            · exact .inl (.inl e)
            · exact .inr (by omega))
      · have HB := Lib.hid (Byte_bad wr f g w.heap.size N l (r + j) fa fr t (a + j) hja (by omega))
        have HU : Hid (Leb.uns R k = Leb.uns (R.take j) k) := Lib.hid (by rw [List.take_of_length_le (by rw [hRl.out]; omega)])
        clear hja
        go_wp2_with (go_at_call 97; refine HB.out.mono ?_; rintro e w1 ⟨rfl, k1, rfl⟩)
        go_ret2
        have hq := HN.out
        have hz := uns_zero (R.take j) k (by rw [← Hy.out]; decide)
        refine ⟨0, 3, r + j, a, rfl, hq.st.drewN _, (hq.fr_.more (fun i hi => .inl hi)).drewN _, by omega, by omega, .inr ?_⟩
        rw [← HRE.out, HU.out, hz.1, hz.2, ← Hy.out]
        exact ⟨rfl, rfl, rfl, fun q => by cases q⟩
    · have HU : Hid (Leb.uns R k = Leb.uns (R.take j) k) := Lib.hid (by
        have := uns_app (R.take j) (R.drop j) k (fun e => hy3 (by rw [Hy.out, e]))
        rw [hRj.out] at this; exact this)
      have hyb : (((y : Nat) : Int) == 3) = false := by
        have := dec_beq y 3
        rw [show ((3 : Nat) : Int) = 3 from rfl] at this
        rw [this]; simp [hy3]
      have h10 : j ≤ 10 := HN.out.j10
      clear hy3
      by_cases hy0 : y = 0
      · subst hy0
        have hj0 : 0 < j := by
          rcases Nat.eq_zero_or_pos j with e | e
          · subst e
            exact absurd Hy.out.symm (uns_nil k)
          · exact e
        have HSZ : Hid ((Leb.uns (R.take j) k).2.1 = j) := Lib.hid (by
          have hjR : j - 1 < R.length := by rw [hRl.out]; omega
          have e := List.take_succ_eq_append_getElem hjR
          rw [show j - 1 + 1 = j by omega] at e
          have h0 := Hy.out.symm
          rw [e] at h0 ⊢
          rw [uns_last _ _ _ (Hl.out hj0) h0, List.length_take]
          omega)
        have a3 : wr.cell? ⟨w.heap.size, 3, none⟩ = some (.int .i64 (a + j : Nat)) := HN.out.ah.cell 3
        have d3 : wr.cell? ⟨c, 3, none⟩ = some (.int .i64 a) := HN.out.st.cu.cell 3
        have z3 := HN.out.st.cu.frozen 3
        go_wp2
        go_ret2
        have hq := HN.out
        have hmv := hq.st.moved (a + j) (by have := hq.st.h1; omega) (by omega)
        have hfin : Fr (FC f c) w (wr.setCell ⟨c, 3, none⟩ (.int .i64 ((a + j : Nat) : Int))) := (hq.fr_.more (fun i hi => .inl hi)).set_ (p := ⟨c, 3, none⟩) (.inr rfl) _
        rw [Int.natCast_add] at hmv hfin
        refine ⟨x, 0, r + j, a + j, rfl, hmv, hfin, by omega, by omega, .inr ?_⟩
        rw [← HRE.out, HU.out, HSZ.out]
        exact ⟨Hx.out, Hy.out, rfl, fun _ => ⟨HFj.out hj0, by omega⟩⟩
      · have hyz : (((y : Nat) : Int) == 0) = false := by
          have := dec_beq y 0
          rw [show ((0 : Nat) : Int) = 0 from rfl] at this
          rw [this]; simp [hy0]
        have HZ := Lib.hid (uns_zero (R.take j) k (by rw [← Hy.out]; exact hy0))
        clear hy0
        go_wp2
        go_ret2
        have hq := HN.out
        refine ⟨x, y, r + j, a, rfl, hq.st, hq.fr_.more (fun i hi => .inl hi), by omega, by omega, .inr ?_⟩
        rw [← HRE.out, HU.out, HZ.out.2]
        exact ⟨Hx.out, Hy.out, rfl, fun q => by rw [q] at hyz; cases hyz⟩

set_option maxHeartbeats 2000000 in
set_option maxRecDepth 100000 in
theorem numq_i64 (w : World) (f g c N : Nat) (l : List Nat) (r : Nat) (fa : Int) (fr t a : Nat) (k : Int) (h : St w f g c N l r fa fr t a) (hr : r < 100000) :
    Calls Tryz.prog 128 #[.pointer (some ⟨c, 0, none⟩), .int .i64 k, .func (.func 129) #[] #[]] w (NumQS f g c N l r fa fr t a k w) := by
  obtain ⟨i0, hi, hz0, hz1, hz2⟩ := info_parts info5
  have c0 : w.cell? ⟨c, 0, none⟩ = some (.pointer (some ⟨f, 0, none⟩)) := h.cu.cell 0
  have c1 : w.cell? ⟨c, 1, none⟩ = some (.int .i64 fr) := h.cu.cell 1
  have c2 : w.cell? ⟨c, 2, none⟩ = some (.int .i64 t) := h.cu.cell 2
  have c3 : w.cell? ⟨c, 3, none⟩ = some (.int .i64 a) := h.cu.cell 3
  obtain ⟨R, hR⟩ : ∃ R, R = (l.drop a).take (t - a) := ⟨_, rfl⟩
  have hRl : Hid (R.length = t - a) := Lib.hid (by rw [hR, List.length_take, List.length_drop]; have := h.fl.len; have := h.h3; omega)
  have H0 : Hid (NRel w f g c N l r fa fr t a w.heap.size 0 none 0 (w.alloc (.cells (cuC f fr t a) 87))) := Lib.hid (by
    have hn := Blk.new w 87 (cuC f fr t a)
    exact ⟨⟨⟨h.fl.blk.alloc _, h.fl.byt.alloc _, h.fl.len, h.fl.lim, h.fl.all⟩, h.cu.alloc _, h.h1, h.h2, h.h3⟩, hn, (Fr.refl _ _).alloc _, by simpa using World.ownsRow_nil _ _ _ _, rfl, by simp, by omega, h.cu.lt, h.fl.blk.lt, h.fl.byt.lt⟩)
  have HRE := Lib.hid hR
  have hat := h.h2
  have htN : t ≤ 65536 := Nat.le_trans h.h3 h.fl.lim
  have hNN : Hid (l.length = N ∧ t ≤ N) := Lib.hid ⟨h.fl.len, h.h3⟩
  clear h hR
  go_enter Tryz.func128, Tryz.ntmps128
  go_wp2_with (go_at_call 129; refine (signed_any none 0 0 [] k _ (byt_nil _)).mono ?_; rintro e w' ⟨rfl, rfl⟩)
  go_loopw [9, 10, 12] (fun v9 v10 v12 wr => ∃ (j : Nat) (A : Option Addr) (cp : Nat) (x : Int) (y : Nat), j ≤ t - a ∧ v9 = .slice A j cp ∧ v10 = .int .i64 x ∧ v12 = .int .i64 y ∧ Hid (x = (Leb.sgn (R.take j) k).1) ∧ Hid (y = (Leb.sgn (R.take j) k).2.2) ∧ Hid (0 < j → (Leb.sgn (R.take (j - 1)) k).2.2 = 3) ∧ Hid (NRel w f g c N l r fa fr t a w.heap.size j A cp wr) ∧ Hid (0 < j → fa < 0 ∨ ((r + j : Nat) : Int) ≤ fa)) (fun v9 _ _ _ => t - a - lenV v9)
  case atStart => exact ⟨0, none, 0, _, _, by omega, rfl, rfl, rfl, Lib.hid rfl, Lib.hid rfl, Lib.hid (fun q => by omega), H0, Lib.hid (fun q => by omega)⟩
  case round =>
    obtain ⟨j, A, cp, x, y, hj, rfl, rfl, rfl, Hx, Hy, Hl, HN, HFj⟩ := hrel
    clear c0 c1 c2 c3
    have hRj : Hid (R.take j ++ R.drop j = R) := Lib.hid (List.take_append_drop j R)
    by_cases hy3 : y = 3
    · subst hy3
      have hj9 : j ≤ 9 := by
        have q := sgn_len _ _ Hy.out.symm
        rw [List.length_take, hRl.out] at q
        omega
      have hja := HN.out.ahead hj
      by_cases hjt : j < t - a
      · by_cases hfa : fa < 0 ∨ (0 ≤ fa ∧ ((r + j : Nat) : Int) < fa)
        · have HB := Lib.hid (Byte_ok wr f g w.heap.size N l (r + j) fa fr t (a + j) hja (by omega) (by omega) hfa)
          have HFn : Hid (0 < j + 1 → fa < 0 ∨ ((r + (j + 1) : Nat) : Int) ≤ fa) := Lib.hid (fun _ => by omega)
          clear hja hfa
          obtain ⟨z, hz⟩ : ∃ z, z = l.getD (a + j) 0 := ⟨_, rfl⟩
          rw [← hz] at HB
          have HZ := Lib.hid hz
          clear hz
          have HE3 : Hid ((Leb.sgn (R.take (j + 1 - 1)) k).2.2 = 3) := Lib.hid Hy.out.symm
          go_wp2_with (first
            | (go_at_call 97; refine HB.out.mono ?_; rintro e w1 ⟨rfl, hs1, hf1⟩; have HS1 := Lib.hid hs1; have HF1 := Lib.hid hf1; have HO1 : Hid (w1.ownsRow (w.heap.size + 1) 5 1 (.slice A j cp) j ((((l.drop a).take (t - a)).take j).map U8)) := Lib.hid (HN.out.own_after hf1); have hB1 : Hid (w.heap.size + 1 ≤ w1.heap.size) := Lib.hid (Nat.le_trans HN.out.hs hf1.size); clear hs1 hf1)
            | (at_builtin
               refine wpList_append_own _ rfl (.tmp 37) (.tmp 39) 27 rfl (w.heap.size + 1) 5 i0 _ 1 1 Tryz.underlying27 hi hz0 hz1 hz2 rfl (by decide) (.slice A j cp) j _ rfl (HO1.out.alloc _) ⟨w1.heap.size, 0, none⟩ 1 1 [U8 z] rfl rfl (cell_new _ _ _) ?d1 ?d2 ?d3 ?d4 ?_
               case d1 => intro u hu; simp at hu; subst hu; rfl
               case d2 => unfold maxLen; omega
               case d3 => omega
               case d4 => have := hB1.out; simp; omega
               intro v2 w2 hown2 hg2 _
               obtain ⟨g2, cp2, hv2⟩ : ∃ g2 cp2, v2 = .slice (some ⟨g2, 0, none⟩) (j + 1) cp2 := own_form hown2 (by omega)
               rw [hv2] at hown2 ⊢
               have HN2 : Hid (NRel w f g c N l r fa fr t a w.heap.size (j + 1) (some ⟨g2, 0, none⟩) cp2 w2) := Lib.hid (HN.out.next hjt hj9 HS1.out HF1.out (by rw [← HZ.out]; exact hown2) hg2)
               clear hown2 hg2 hv2)
            | (go_at_call 129; refine (signed_any _ _ _ (R.take (j + 1)) k _ (by rw [HRE.out]; exact HN2.out.byt)).mono ?_; rintro e w3 ⟨rfl, rfl⟩))
          go_roundw
          case rel => exact ⟨j + 1, some ⟨g2, 0, none⟩, cp2, _, _, by omega, rfl, rfl, rfl, Lib.hid rfl, Lib.hid rfl, Lib.hid (fun _ => HE3.out), HN2, HFn⟩
          case measure => simp [lenV]; omega
        · have hfa2 : 0 ≤ fa ∧ fa ≤ ((r + j : Nat) : Int) := by omega
          have HB := Lib.hid (Byte_fail wr f g w.heap.size N l (r + j) fa fr t (a + j) hja (by omega) (by omega) hfa2.1 hfa2.2)
          have HFA := Lib.hid hfa2
          clear hja hfa hfa2
          go_wp2_with (go_at_call 97; refine HB.out.mono ?_; rintro e w1 ⟨rfl, hs1, hf1⟩; have HS1 := Lib.hid hs1; have HF1 := Lib.hid hf1; clear hs1 hf1)
          go_ret2
          have hq := HN.out
          have hcu : Blk w1 c 87 (cuC f fr t a) := hq.st.cu.fr HF1.out (fun e => by
            rcases e with e | e
            · exact hq.st.fc e.symm
            · have := hq.cl; omega)
          refine ⟨0, 9, r + j + 1, a, rfl, ⟨HS1.out.fl, hcu, hq.st.h1, hq.st.h2, hq.st.h3⟩, ?_, by omega, by omega, .inl ⟨rfl, rfl, rfl, HFA.out.1, by have := HFA.out.2; omega⟩⟩
          exact (hq.fr_.more (fun i hi => .inl hi)).new_ HF1.out (fun i hi => by
            rcases hi with e | e
            · exact .inl (.inl e)
            · exact .inr (by omega))
      · have HB := Lib.hid (Byte_bad wr f g w.heap.size N l (r + j) fa fr t (a + j) hja (by omega))
        have HU : Hid (Leb.sgn R k = Leb.sgn (R.take j) k) := Lib.hid (by rw [List.take_of_length_le (by rw [hRl.out]; omega)])
        clear hja
        go_wp2_with (go_at_call 97; refine HB.out.mono ?_; rintro e w1 ⟨rfl, k1, rfl⟩)
        go_ret2
        have hq := HN.out
        have hz := sgn_zero (R.take j) k (by rw [← Hy.out]; decide)
        refine ⟨0, 3, r + j, a, rfl, hq.st.drewN _, (hq.fr_.more (fun i hi => .inl hi)).drewN _, by omega, by omega, .inr ?_⟩
        rw [← HRE.out, HU.out, hz.1, hz.2, ← Hy.out]
        exact ⟨rfl, rfl, rfl, fun q => by cases q⟩
    · have HU : Hid (Leb.sgn R k = Leb.sgn (R.take j) k) := Lib.hid (by
        have := sgn_app (R.take j) (R.drop j) k (fun e => hy3 (by rw [Hy.out, e]))
        rw [hRj.out] at this; exact this)
      have hyb : (((y : Nat) : Int) == 3) = false := by
        have := dec_beq y 3
        rw [show ((3 : Nat) : Int) = 3 from rfl] at this
        rw [this]; simp [hy3]
      have h10 : j ≤ 10 := HN.out.j10
      clear hy3
      by_cases hy0 : y = 0
      · subst hy0
        have hj0 : 0 < j := by
          rcases Nat.eq_zero_or_pos j with e | e
          · subst e
            exact absurd Hy.out.symm (sgn_nil k)
          · exact e
        have HSZ : Hid ((Leb.sgn (R.take j) k).2.1 = j) := Lib.hid (by
          have hjR : j - 1 < R.length := by rw [hRl.out]; omega
          have e := List.take_succ_eq_append_getElem hjR
          rw [show j - 1 + 1 = j by omega] at e
          have h0 := Hy.out.symm
          rw [e] at h0 ⊢
          rw [sgn_last _ _ _ (Hl.out hj0) h0, List.length_take]
          omega)
        have a3 : wr.cell? ⟨w.heap.size, 3, none⟩ = some (.int .i64 (a + j : Nat)) := HN.out.ah.cell 3
        have d3 : wr.cell? ⟨c, 3, none⟩ = some (.int .i64 a) := HN.out.st.cu.cell 3
        have z3 := HN.out.st.cu.frozen 3
        go_wp2
        go_ret2
        have hq := HN.out
        have hmv := hq.st.moved (a + j) (by have := hq.st.h1; omega) (by omega)
        have hfin : Fr (FC f c) w (wr.setCell ⟨c, 3, none⟩ (.int .i64 ((a + j : Nat) : Int))) := (hq.fr_.more (fun i hi => .inl hi)).set_ (p := ⟨c, 3, none⟩) (.inr rfl) _
        rw [Int.natCast_add] at hmv hfin
        refine ⟨x, 0, r + j, a + j, rfl, hmv, hfin, by omega, by omega, .inr ?_⟩
        rw [← HRE.out, HU.out, HSZ.out]
        exact ⟨Hx.out, Hy.out, rfl, fun _ => ⟨HFj.out hj0, by omega⟩⟩
      · have hyz : (((y : Nat) : Int) == 0) = false := by
          have := dec_beq y 0
          rw [show ((0 : Nat) : Int) = 0 from rfl] at this
          rw [this]; simp [hy0]
        have HZ := Lib.hid (sgn_zero (R.take j) k (by rw [← Hy.out]; exact hy0))
        clear hy0
        go_wp2
        go_ret2
        have hq := HN.out
        refine ⟨x, y, r + j, a, rfl, hq.st, hq.fr_.more (fun i hi => .inl hi), by omega, by omega, .inr ?_⟩
        rw [← HRE.out, HU.out, HZ.out.2]
        exact ⟨Hx.out, Hy.out, rfl, fun q => by rw [q] at hyz; cases hyz⟩
set_option maxHeartbeats 400000 in
set_option maxRecDepth 100000 in
theorem qUnsigned (w : World) (f g c N : Nat) (l : List Nat) (r : Nat) (fa : Int) (fr t a : Nat) (k : Int) (h : St w f g c N l r fa fr t a) (hr : r < 100000) :
    Calls Tryz.prog 102 #[.pointer (some ⟨c, 0, none⟩), .int .i64 k] w (NumQ f g c N l r fa fr t a k w) := by
  have HN := Lib.hid (numq_u64 w f g c N l r fa fr t a k h hr)
  clear h
  go_enter Tryz.func102, Tryz.ntmps102
  go_wp2_with (go_at_call 126; refine HN.out.mono ?_; rintro e w' ⟨x, y, r', a', rfl, h1, h2, h3, h4, h5⟩; have H1 := Lib.hid h1; have H2 := Lib.hid h2; have H5 := Lib.hid h5; clear h1 h2 h5)
  go_ret2
  exact ⟨x, y, r', a', rfl, H1.out, H2.out, h3, h4, H5.out⟩
set_option maxHeartbeats 400000 in
set_option maxRecDepth 100000 in
theorem qSigned (w : World) (f g c N : Nat) (l : List Nat) (r : Nat) (fa : Int) (fr t a : Nat) (k : Int) (h : St w f g c N l r fa fr t a) (hr : r < 100000) :
    Calls Tryz.prog 107 #[.pointer (some ⟨c, 0, none⟩), .int .i64 k] w (NumQS f g c N l r fa fr t a k w) := by
  have HN := Lib.hid (numq_i64 w f g c N l r fa fr t a k h hr)
  clear h
  go_enter Tryz.func107, Tryz.ntmps107
  go_wp2_with (go_at_call 128; refine HN.out.mono ?_; rintro e w' ⟨x, y, r', a', rfl, h1, h2, h3, h4, h5⟩; have H1 := Lib.hid h1; have H2 := Lib.hid h2; have H5 := Lib.hid h5; clear h1 h2 h5)
  go_ret2
  exact ⟨x, y, r', a', rfl, H1.out, H2.out, h3, h4, H5.out⟩
end Go.Proofs.YtggfaalodojjkaaGreatDoor
/-
  instr's reader: meet, next, number.
-/
namespace Go.Proofs.YtggfaalodojjkaaGreatDoor
open Go.RowKit
set_option linter.unusedVariables false
set_option linter.unusedSimpArgs false
/-- a reader: its cursor's state beside its error -/
structure RSt (w : World) (f g c N : Nat) (l : List Nat) (r : Nat) (fa : Int) (fr t a R er : Nat) : Prop where
  st : St w f g c N l r fa fr t a
  rd : Blk w R 89 #[.pointer (some ⟨c, 0, none⟩), .int .i64 er]
def rest (l : List Nat) (t a : Nat) : List Nat := (l.drop a).take (t - a)
/-- what a reader's steps come to: the value, where it stands, the error -/
def byF (l : List Nat) (t a er : Nat) : Nat × Nat × Nat := if er = 0 then (if a < t then (l.getD a 0, a + 1, 0) else (0, a, 3)) else (0, a, er)
def nuF (l : List Nat) (t : Nat) (k : Int) (a er : Nat) : Nat × Nat × Nat := if er = 0 then ((Leb.uns (rest l t a) k).1, a + (Leb.uns (rest l t a) k).2.1, (Leb.uns (rest l t a) k).2.2) else (0, a, er)
def sgF (l : List Nat) (t : Nat) (k : Int) (a er : Nat) : Int × Nat × Nat := if er = 0 then ((Leb.sgn (rest l t a) k).1, a + (Leb.sgn (rest l t a) k).2.1, (Leb.sgn (rest l t a) k).2.2) else (0, a, er)
def FR (f c R : Nat) (q : Nat) : Prop := q = f ∨ q = c ∨ q = R
/-- what is known behind a step that read: it failed, or it came to what it comes to -/
def Came {α : Type} (fa : Int) (r a r' : Nat) (x : α) (a' er' : Nat) (F : α × Nat × Nat) : Prop :=
  (er' = 9 ∧ 0 ≤ fa ∧ fa < r') ∨ ((x, a', er') = F ∧ (er' = 0 → (fa < 0 ∨ (r' : Int) ≤ fa) ∧ r' + a = r + a'))
section
variable {w w' : World} {f g c N : Nat} {l : List Nat} {r : Nat} {fa : Int} {fr t a R er : Nat}
theorem RSt.drewN (h : RSt w f g c N l r fa fr t a R er) (k : Nat) : RSt (w.drewN k) f g c N l r fa fr t a R er := ⟨h.st.drewN k, h.rd.drewN k⟩
theorem RSt.cR (h : RSt w f g c N l r fa fr t a R er) : c ≠ R := h.st.cu.ne_ h.rd (by decide)
theorem RSt.fR (h : RSt w f g c N l r fa fr t a R er) : f ≠ R := h.st.fl.blk.ne_ h.rd (by decide)
theorem RSt.gR (h : RSt w f g c N l r fa fr t a R er) : g ≠ R := h.st.fl.byt.ne_ h.rd (by decide)
theorem RSt.fr_ {S : Nat → Prop} (h : RSt w f g c N l r fa fr t a R er) (hf : Fr S w w') (h1 : ¬ S f) (h2 : ¬ S g) (h3 : ¬ S c) (h4 : ¬ S R) : RSt w' f g c N l r fa fr t a R er := ⟨h.st.fr_ hf h1 h2 h3, h.rd.fr hf h4⟩
theorem RSt.new (h : RSt w f g c N l r fa fr t a R er) (hf : Fr (fun _ => False) w w') : RSt w' f g c N l r fa fr t a R er := h.fr_ hf (fun q => q) (fun q => q) (fun q => q) (fun q => q)
theorem RSt.alloc (h : RSt w f g c N l r fa fr t a R er) (o : Obj) : RSt (w.alloc o) f g c N l r fa fr t a R er := h.new ((Fr.refl _ w).alloc o)
theorem RSt.err (h : RSt w f g c N l r fa fr t a R er) (e : Nat) : RSt (w.setCell ⟨R, 1, none⟩ (.int .i64 e)) f g c N l r fa fr t a R e := by
  have hf : Fr (fun q => q = R) w (w.setCell ⟨R, 1, none⟩ (.int .i64 e)) := (Fr.refl (fun q => q = R) w).set_ (p := ⟨R, 1, none⟩) rfl _
  exact ⟨h.st.fr_ hf h.fR h.gR h.cR, h.rd.set_ 1 _⟩
set_option maxRecDepth 100000 in
theorem meet_ok (h : RSt w f g c N l r fa fr t a R er) (e : Nat) : Calls Tryz.prog 99 #[.pointer (some ⟨R, 0, none⟩), .int .i64 e] w fun x w' => x = .returned (.tuple #[]) ∧ RSt w' f g c N l r fa fr t a R (if er = 0 then e else er) ∧ Fr (fun q => q = R) w w' := by
  have c1 : w.cell? ⟨R, 1, none⟩ = some (.int .i64 er) := h.rd.cell 1
  have z1 : w.frozen? ⟨R, 1, none⟩ = false := h.rd.frozen 1
  have HE := Lib.hid (h.err e)
  have H := Lib.hid h
  clear h
  by_cases h0 : er = 0
  · subst h0
    rw [if_pos rfl]
    go_enter Tryz.func99, Tryz.ntmps99
    go_wp2
    go_end0
    exact ⟨rfl, HE.out, (Fr.refl (fun q => q = R) w).set_ (p := ⟨R, 1, none⟩) rfl _⟩
  · rw [if_neg h0]
    have hq : (((er : Nat) : Int) == 0) = false := by rw [beq_eq_false_iff_ne]; omega
    go_enter Tryz.func99, Tryz.ntmps99
    go_wp2
    go_end0
    exact ⟨rfl, H.out, Fr.refl _ _⟩
/-- a byte, by next -/
def ByP (f g c N : Nat) (l : List Nat) (r : Nat) (fa : Int) (fr t a R er : Nat) (w : World) (e : Ending) (w' : World) : Prop :=
  ∃ x a' er' r' : Nat, e = .returned (.int .u8 x) ∧ x < 256 ∧ RSt w' f g c N l r' fa fr t a' R er' ∧ Fr (FR f c R) w w' ∧ r ≤ r' ∧ r' ≤ r + 1 ∧ Came fa r a r' x a' er' (byF l t a er) ∧ (er' = 9 → 0 ≤ fa ∧ fa < r' ∨ er = 9)
end
end Go.Proofs.YtggfaalodojjkaaGreatDoor
/-
  instr's reader: next of a byte; number; word.
-/
namespace Go.Proofs.YtggfaalodojjkaaGreatDoor
open Go.RowKit
set_option linter.unusedVariables false
set_option linter.unusedSimpArgs false
section
variable {w w' : World} {f g c N : Nat} {l : List Nat} {r : Nat} {fa : Int} {fr t a R er : Nat}
theorem RSt.after {r' a' : Nat} (h : RSt w f g c N l r fa fr t a R er) (hs : St w' f g c N l r' fa fr t a') (hf : Fr (FC f c) w w') : RSt w' f g c N l r' fa fr t a' R er :=
  ⟨hs, h.rd.fr hf (fun e => by rcases e with e | e; exact h.fR e.symm; exact h.cR e.symm)⟩
theorem Fr.fcR (hf : Fr (FC f c) w w') : Fr (FR f c R) w w' := hf.more (fun q e => by rcases e with e | e; exact .inl e; exact .inr (.inl e))
theorem Fr.oR (hf : Fr (fun q => q = R) w w') : Fr (FR f c R) w w' := hf.more (fun q e => .inr (.inr e))
theorem came_old {α : Type} {r r' : Nat} {x : α} {F : α × Nat × Nat} (he : er ≠ 0) (hF : F = (x, a, er)) : Came fa r a r' x a er F := .inr ⟨hF.symm, fun q => absurd q he⟩
theorem meet0 (h : RSt w f g c N l r fa fr t a R 0) (e : Nat) : Calls Tryz.prog 99 #[.pointer (some ⟨R, 0, none⟩), .int .i64 e] w fun x w' => x = .returned (.tuple #[]) ∧ RSt w' f g c N l r fa fr t a R e ∧ Fr (fun q => q = R) w w' := by
  have := meet_ok h e
  rwa [if_pos rfl] at this
set_option maxHeartbeats 1000000 in
set_option maxRecDepth 100000 in
theorem nextB_ok (h : RSt w f g c N l r fa fr t a R er) (hr : r < 100000) (hx : ∀ z ∈ l, z < 256) : Calls Tryz.prog 96 #[.pointer (some ⟨R, 0, none⟩), .func (.func 97) #[.pointer (some ⟨c, 0, none⟩)] #[]] w (fun e w' => ∃ x a' er' r' : Nat, e = .returned (.int .u8 x) ∧ x < 256 ∧ RSt w' f g c N l r' fa fr t a' R er' ∧ Fr (FR f c R) w w' ∧ r ≤ r' ∧ r' ≤ r + 1 ∧ Came fa r a r' x a' er' (byF l t a er)) := by
  have c1 : w.cell? ⟨R, 1, none⟩ = some (.int .i64 er) := h.rd.cell 1
  have H := Lib.hid h
  by_cases he : er = 0
  case neg =>
    have hq : (((er : Nat) : Int) != 0) = true := by rw [bne_iff_ne]; omega
    clear h
    go_enter Tryz.func96, Tryz.ntmps96
    go_wp2
    go_ret
    exact ⟨0, a, er, r, rfl, by omega, H.out, Fr.refl _ _, Nat.le_refl _, by omega, came_old he (by unfold byF; rw [if_neg he])⟩
  subst he
  by_cases hat : a < t
  · by_cases hfa : fa < 0 ∨ (0 ≤ fa ∧ (r : Int) < fa)
    · have HB := Lib.hid (Byte_ok w f g c N l r fa fr t a h.st hat (by omega) hfa)
      have hz : l.getD a 0 < 256 := by
        rw [List.getD_eq_getElem?_getD]
        cases e : l[a]? with
        | none => simp
        | some z => simpa using hx z (List.mem_of_getElem? e)
      obtain ⟨z, ez⟩ : ∃ z, z = l.getD a 0 := ⟨_, rfl⟩
      rw [← ez] at HB hz
      have HZ := Lib.hid ez
      have HF := Lib.hid hfa
      clear h hfa ez
      go_enter Tryz.func96, Tryz.ntmps96
      go_wp2_with (first
        | (go_at_call 97; refine HB.out.mono ?_; rintro e w1 ⟨rfl, hs, hf⟩; have H1 := Lib.hid (H.out.after hs hf); have HF1 := Lib.hid hf; have HM := Lib.hid (meet_ok (H.out.after hs hf) 0); clear hs hf)
        | (go_at_call 99; refine HM.out.mono ?_; rintro e w2 ⟨rfl, hs, hf⟩; have H2 := Lib.hid hs; have HF2 := Lib.hid hf; clear hs hf))
      go_ret
      refine ⟨z, a + 1, 0, r + 1, rfl, hz, H2.out, HF1.out.fcR.trans HF2.out.oR, by omega, by omega, .inr ⟨?_, fun _ => ⟨?_, by omega⟩⟩⟩
      · unfold byF; rw [if_pos rfl, if_pos hat, HZ.out]
      · have := HF.out; omega
    · have HB := Lib.hid (Byte_fail w f g c N l r fa fr t a h.st hat (by omega) (by omega) (by omega))
      have HF : Hid (0 ≤ fa ∧ fa ≤ r) := Lib.hid (by omega)
      clear h hfa
      go_enter Tryz.func96, Tryz.ntmps96
      go_wp2_with (first
        | (go_at_call 97; refine HB.out.mono ?_; rintro e w1 ⟨rfl, hs, hf⟩; have HF1 := Lib.hid hf; have HM := Lib.hid (meet_ok (H.out.after hs hf) 9); clear hs hf)
        | (go_at_call 99; refine HM.out.mono ?_; rintro e w2 ⟨rfl, hs, hf⟩; have H2 := Lib.hid hs; have HF2 := Lib.hid hf; clear hs hf))
      go_ret
      exact ⟨0, a, 9, r + 1, rfl, by omega, H2.out, HF1.out.fcR.trans HF2.out.oR, by omega, by omega, .inl ⟨rfl, HF.out.1, by have := HF.out.2; omega⟩⟩
  · have HB := Lib.hid (Byte_bad w f g c N l r fa fr t a h.st (by omega))
    clear h
    go_enter Tryz.func96, Tryz.ntmps96
    go_wp2_with (first
      | (go_at_call 97; refine HB.out.mono ?_; rintro e w1 ⟨rfl, k, rfl⟩; have HM := Lib.hid (meet_ok (H.out.drewN k) 3))
      | (go_at_call 99; refine HM.out.mono ?_; rintro e w2 ⟨rfl, hs, hf⟩; have H2 := Lib.hid hs; have HF2 := Lib.hid hf; clear hs hf))
    go_ret
    refine ⟨0, a, 3, r, rfl, by omega, H2.out, HF2.out.undrewN.oR, by omega, by omega, .inr ⟨?_, fun q => by cases q⟩⟩
    unfold byF; rw [if_pos rfl, if_neg hat]
/-- what a number comes to -/
def NuR (f g c N : Nat) (l : List Nat) (r : Nat) (fa : Int) (fr t a R er : Nat) (k : Int) (w : World) (e : Ending) (w' : World) : Prop :=
  ∃ x a' er' r' : Nat, e = .returned (.int .u64 x) ∧ x < 18446744073709551616 ∧ RSt w' f g c N l r' fa fr t a' R er' ∧ Fr (FR f c R) w w' ∧ r ≤ r' ∧ r' ≤ r + 11 ∧ Came fa r a r' x a' er' (nuF l t k a er)
set_option maxHeartbeats 1000000 in
set_option maxRecDepth 100000 in
theorem numc_ok (h : RSt w f g c N l r fa fr t a R er) (hr : r < 100000) (B1 B2 : Nat) (k : Int) (h1 : Blk w B1 125 #[.pointer (some ⟨R, 0, none⟩)]) (h2 : Blk w B2 3 #[.int .i64 k]) :
    Calls Tryz.prog 101 #[.pointer (some ⟨B1, 0, none⟩), .pointer (some ⟨B2, 0, none⟩)] w (NumQ f g c N l r fa fr t a k w) := by
  have c0 : w.cell? ⟨B1, 0, none⟩ = some (.pointer (some ⟨R, 0, none⟩)) := h1.cell 0
  have c1 : w.cell? ⟨B2, 0, none⟩ = some (.int .i64 k) := h2.cell 0
  have c2 : w.cell? ⟨R, 0, none⟩ = some (.pointer (some ⟨c, 0, none⟩)) := h.rd.cell 0
  have HN := Lib.hid (fun q => qUnsigned (w.drewN q) f g c N l r fa fr t a k (h.st.drewN q) hr)
  unfold NumQ at HN ⊢
  clear h h1 h2
  go_enter Tryz.func101, Tryz.ntmps101
  go_wp2
  go_region_with (go_at_call 102; refine (HN.out 1).mono ?_; rintro e w' ⟨x, y, r', a', rfl, h1, h2, h3, h4, h5⟩; have H1 := Lib.hid h1; have H2 := Lib.hid h2; have H5 := Lib.hid h5; clear h1 h2 h5)
  all_goals
    go_wp2
    go_ret2
    exact ⟨x, y, r', a', rfl, H1.out, H2.out.undrewN, h3, h4, H5.out⟩
theorem Blk.kept {B : Nat} {S : Nat → Prop} {ty : TypeId} {cs : Array Value} (h : Blk w B ty cs) (hf : Fr S w w') (hs : ¬ S B) : Blk w' B ty cs := h.fr hf hs
set_option maxHeartbeats 1000000 in
set_option maxRecDepth 100000 in
theorem number_ok (h : RSt w f g c N l r fa fr t a R er) (hr : r < 100000) (k : Int) : Calls Tryz.prog 71 #[.pointer (some ⟨R, 0, none⟩), .int .i64 k] w (NuR f g c N l r fa fr t a R er k w) := by
  obtain ⟨W, hW⟩ : ∃ W, W = (w.alloc (.cells #[.pointer (some ⟨R, 0, none⟩)] 125)).alloc (.cells #[.int .i64 k] 3) := ⟨_, rfl⟩
  have hf0 : Fr (fun _ => False) w W := by rw [hW]; exact ((Fr.refl _ w).alloc _).alloc _
  have hb1 : Blk W w.heap.size 125 #[.pointer (some ⟨R, 0, none⟩)] := by rw [hW]; exact (Blk.new w 125 _).alloc _
  have hb2 : Blk W (w.heap.size + 1) 3 #[.int .i64 k] := by rw [hW]; exact heap2 w _ _
  have h0 := h.new hf0
  have c0 : W.cell? ⟨w.heap.size, 0, none⟩ = some (.pointer (some ⟨R, 0, none⟩)) := hb1.cell 0
  have HW := Lib.hid hW
  have HF0 := Lib.hid hf0
  have H0 := Lib.hid h0
  have HC := Lib.hid (numc_ok h0 hr w.heap.size (w.heap.size + 1) k hb1 hb2)
  have hN : Calls Tryz.prog 100 #[.pointer (some ⟨R, 0, none⟩), .func (.func 101) #[] #[.pointer (some ⟨w.heap.size, 0, none⟩), .pointer (some ⟨w.heap.size + 1, 0, none⟩)]] W (NuR f g c N l r fa fr t a R er k W) := by
    have c1 : W.cell? ⟨R, 1, none⟩ = some (.int .i64 er) := h0.rd.cell 1
    clear h hW hb1 hb2 c0 hf0 h0 HF0 HW
    unfold NumQ at HC
    unfold NuR
    by_cases he : er = 0
    case neg =>
      have hq : (((er : Nat) : Int) != 0) = true := by rw [bne_iff_ne]; omega
      go_enter Tryz.func100, Tryz.ntmps100
      go_wp2
      go_ret
      exact ⟨0, a, er, r, rfl, by omega, H0.out, Fr.refl _ _, Nat.le_refl _, by omega, came_old he (by unfold nuF; rw [if_neg he])⟩
    subst he
    go_enter Tryz.func100, Tryz.ntmps100
    go_wp2_with (first
      | (go_at_call 101; refine HC.out.mono ?_; rintro e w1 ⟨x, y, r', a', rfl, hs, hf, h3, h4, h5⟩; have H1 := Lib.hid (H0.out.after hs hf); have HF1 := Lib.hid hf; have H5 := Lib.hid h5; have HM := Lib.hid (meet0 (H0.out.after hs hf) y); clear hs hf h5)
      | (go_at_call 99; refine HM.out.mono ?_; rintro e w2 ⟨rfl, hs, hf⟩; have H2 := Lib.hid hs; have HF2 := Lib.hid hf; clear hs hf))
    go_ret
    refine ⟨x, a', y, r', rfl, ?_, H2.out, HF1.out.fcR.trans HF2.out.oR, h3, h4, ?_⟩
    · rcases H5.out with ⟨_, e, _⟩ | ⟨e, _⟩
      · omega
      · rw [e]; have := Leb.uns_lt (rest l t a) k; unfold rest at this; omega
    · rcases H5.out with ⟨e1, e2, e3, e4, e5⟩ | ⟨e1, e2, e3, e4⟩
      · exact .inl ⟨e1, e4, e5⟩
      · refine .inr ⟨?_, e4⟩
        unfold nuF rest
        rw [if_pos rfl, e1, e2, e3]
  have HN := Lib.hid hN
  unfold NuR at HN ⊢
  clear hN h hW hb1 hb2 hf0 h0
  go_enter Tryz.func71, Tryz.ntmps71
  go_upto_region 1 with fail
  rw [← HW.out]
  go_wp2_with (go_at_call 100; refine HN.out.mono ?_; rintro e w1 ⟨x, a', er', r', rfl, q1, q2, q3, q4, q5, q6⟩; have H1 := Lib.hid (And.intro q2 (And.intro q3 q6)); clear q2 q3 q6)
  go_ret
  exact ⟨x, a', er', r', rfl, q1, H1.out.1, (HF0.out.more (fun q e => e.elim)).trans H1.out.2.1, q4, q5, H1.out.2.2⟩
end
end Go.Proofs.YtggfaalodojjkaaGreatDoor
/-
  instr's reader: word, blockType, access.
-/
namespace Go.Proofs.YtggfaalodojjkaaGreatDoor
open Go.RowKit
set_option linter.unusedVariables false
set_option linter.unusedSimpArgs false
/-- two steps, one behind the other -/
theorem came_seq {α β : Type} {fa : Int} {r a r1 a1 er1 r2 a2 er2 : Nat} {x : α} {y : β} {F1 : α × Nat × Nat} {F2 : β × Nat × Nat} (h2 : er1 ≠ 0 → F2.2.2 = er1)
    (c1 : Came fa r a r1 x a1 er1 F1) (c2 : Came fa r1 a1 r2 y a2 er2 F2) (hr : r1 ≤ r2) :
    (er2 = 9 ∧ 0 ≤ fa ∧ fa < r2) ∨ ((x, a1, er1) = F1 ∧ (y, a2, er2) = F2 ∧ (er2 = 0 → (fa < 0 ∨ (r2 : Int) ≤ fa) ∧ r2 + a = r + a2)) := by
  rcases c2 with c2 | ⟨e2, k2⟩
  · exact .inl c2
  have e22 : er2 = F2.2.2 := by rw [← e2]
  rcases c1 with ⟨e, h0, h1⟩ | ⟨e1, k1⟩
  · refine .inl ⟨?_, h0, by omega⟩
    rw [e22, h2 (by omega), e]
  · refine .inr ⟨e1, e2, fun q => ?_⟩
    have hk := k2 q
    have he1 : er1 = 0 := by
      rcases Nat.eq_zero_or_pos er1 with z | z
      · exact z
      · have := h2 (by omega); omega
    have := k1 he1
    exact ⟨hk.1, by omega⟩
theorem byF_er (l : List Nat) (t a er : Nat) (h : er ≠ 0) : (byF l t a er).2.2 = er := by unfold byF; rw [if_neg h]
theorem nuF_er (l : List Nat) (t : Nat) (k : Int) (a er : Nat) (h : er ≠ 0) : (nuF l t k a er).2.2 = er := by unfold nuF; rw [if_neg h]
theorem sgF_er (l : List Nat) (t : Nat) (k : Int) (a er : Nat) (h : er ≠ 0) : (sgF l t k a er).2.2 = er := by unfold sgF; rw [if_neg h]
/-- an error met behind a step -/
theorem came_meet {α : Type} {fa : Int} {r a r' : Nat} {x : α} {a' er' : Nat} {F : α × Nat × Nat} (e : Nat) (he : e ≠ 0) (h : Came fa r a r' x a' er' F) : Came fa r a r' x a' (if er' = 0 then e else er') (F.1, F.2.1, if F.2.2 = 0 then e else F.2.2) := by
  rcases h with ⟨e1, h0, h1⟩ | ⟨e1, k⟩
  · exact .inl ⟨by rw [if_neg (by omega)]; exact e1, h0, h1⟩
  · subst e1
    refine .inr ⟨rfl, fun q => ?_⟩
    split at q
    · exact absurd q he
    · rename_i hn; exact absurd q hn
/-- a block's type -/
def btF (l : List Nat) (t a er : Nat) : Nat × Nat × Nat := if bkB (byF l t a er).1 then byF l t a er else ((byF l t a er).1, (byF l t a er).2.1, if (byF l t a er).2.2 = 0 then 4 else (byF l t a er).2.2)
theorem btF_er (l : List Nat) (t a er : Nat) (h : er ≠ 0) : (btF l t a er).2.2 = er := by
  unfold btF
  have := byF_er l t a er h
  split
  · exact this
  · simp only [this, if_neg h]
section
variable {w w' : World} {f g c N : Nat} {l : List Nat} {r : Nat} {fa : Int} {fr t a R er : Nat}
/-- what a step that answers a word comes to -/
def WR (f g c N : Nat) (l : List Nat) (r : Nat) (fa : Int) (fr t a R : Nat) (C : Nat) (F : Nat × Nat × Nat) (w : World) (e : Ending) (w' : World) : Prop :=
  ∃ x a' er' r' : Nat, e = .returned (.int .u64 x) ∧ x < 18446744073709551616 ∧ RSt w' f g c N l r' fa fr t a' R er' ∧ Fr (FR f c R) w w' ∧ r ≤ r' ∧ r' ≤ r + C ∧ Came fa r a r' x a' er' F
set_option maxHeartbeats 1000000 in
set_option maxRecDepth 100000 in
theorem blockT_ok (h : RSt w f g c N l r fa fr t a R er) (hr : r < 100000) (hx : ∀ z ∈ l, z < 256) : Calls Tryz.prog 69 #[.pointer (some ⟨R, 0, none⟩)] w (WR f g c N l r fa fr t a R 1 (btF l t a er) w) := by
  have HB := Lib.hid (nextB_ok h hr hx)
  have c0 : w.cell? ⟨R, 0, none⟩ = some (.pointer (some ⟨c, 0, none⟩)) := h.rd.cell 0
  have HK := Lib.hid (fun (x : Nat) W => blockType_ok (x : Int) W)
  have HM := Lib.hid (fun (a' er' r' : Nat) W (hs : RSt W f g c N l r' fa fr t a' R er') => meet_ok hs 4)
  clear h
  unfold WR
  go_enter Tryz.func69, Tryz.ntmps69
  go_upto_region 2 with (go_at_call 96; refine HB.out.mono ?_; rintro e w1 ⟨x, a', er', r', rfl, hx2, hs, hf, q1, q2, hc⟩; have H1 := Lib.hid hs; have HF1 := Lib.hid hf; have HC := Lib.hid hc; clear hs hf hc)
  by_cases hb : bkB (x : Int) = true
  · go_wp2_with (go_at_call 56; refine (HK.out x _).mono ?_; rw [hb]; rintro e w2 ⟨rfl, rfl⟩)
    go_ret
    refine ⟨x, a', er', r', rfl, by omega, H1.out, HF1.out, q1, q2, ?_⟩
    rcases HC.out with h | ⟨e, k⟩
    · exact .inl h
    · refine .inr ⟨?_, k⟩
      unfold btF
      rw [← e]
      simp only [hb, if_true]
  · have hb' : bkB (x : Int) = false := by simpa using hb
    have HM1 := Lib.hid (HM.out _ _ _ _ H1.out)
    go_wp2_with (first
      | (go_at_call 56; refine (HK.out x _).mono ?_; rw [hb']; rintro e w2 ⟨rfl, rfl⟩)
      | (go_at_call 99; refine HM1.out.mono ?_; rintro e w2 ⟨rfl, hs, hf⟩; have H2 := Lib.hid hs; have HF2 := Lib.hid hf; clear hs hf))
    go_ret
    refine ⟨x, a', _, r', rfl, by omega, H2.out, HF1.out.trans HF2.out.oR, q1, q2, ?_⟩
    have h := came_meet 4 (by decide) HC.out
    rcases HC.out with h' | ⟨e, k⟩
    · rcases h with h | h
      · exact .inl h
      · exact .inl ⟨by rw [if_neg (by omega)]; exact h'.1, h'.2⟩
    · have e2 : btF l t a er = ((byF l t a er).1, (byF l t a er).2.1, if (byF l t a er).2.2 = 0 then 4 else (byF l t a er).2.2) := by
        unfold btF
        rw [← e]
        simp only [hb', Bool.false_eq_true, if_false]
      rw [e2]
      exact h
end
end Go.Proofs.YtggfaalodojjkaaGreatDoor
/-
  instr's reader: word, access.
-/
namespace Go.Proofs.YtggfaalodojjkaaGreatDoor
open Go.RowKit
set_option linter.unusedVariables false
set_option linter.unusedSimpArgs false
/-- a word, read with a sign -/
def wdF (l : List Nat) (t : Nat) (k : Int) (a er : Nat) : Nat × Nat × Nat := (Wd.cut k (wu (sgF l t k a er).1), (sgF l t k a er).2)
theorem wdF_er (l : List Nat) (t : Nat) (k : Int) (a er : Nat) (h : er ≠ 0) : (wdF l t k a er).2.2 = er := sgF_er l t k a er h
theorem cut_lt (k : Int) (a : Nat) (h : a < 18446744073709551616) : Wd.cut k a < 18446744073709551616 := by
  unfold Wd.cut
  split <;> omega
section
variable {w w' : World} {f g c N : Nat} {l : List Nat} {r : Nat} {fa : Int} {fr t a R er : Nat}
set_option maxHeartbeats 1000000 in
set_option maxRecDepth 100000 in
theorem wordc_ok (h : RSt w f g c N l r fa fr t a R er) (hr : r < 100000) (B1 B2 : Nat) (k : Int) (h1 : Blk w B1 125 #[.pointer (some ⟨R, 0, none⟩)]) (h2 : Blk w B2 3 #[.int .i64 k]) :
    Calls Tryz.prog 106 #[.pointer (some ⟨B1, 0, none⟩), .pointer (some ⟨B2, 0, none⟩)] w (NumQS f g c N l r fa fr t a k w) := by
  have c0 : w.cell? ⟨B1, 0, none⟩ = some (.pointer (some ⟨R, 0, none⟩)) := h1.cell 0
  have c1 : w.cell? ⟨B2, 0, none⟩ = some (.int .i64 k) := h2.cell 0
  have c2 : w.cell? ⟨R, 0, none⟩ = some (.pointer (some ⟨c, 0, none⟩)) := h.rd.cell 0
  have HN := Lib.hid (fun q => qSigned (w.drewN q) f g c N l r fa fr t a k (h.st.drewN q) hr)
  unfold NumQS at HN ⊢
  clear h h1 h2
  go_enter Tryz.func106, Tryz.ntmps106
  go_wp2
  go_region_with (go_at_call 107; refine (HN.out 1).mono ?_; rintro e w' ⟨x, y, r', a', rfl, h1, h2, h3, h4, h5⟩; have H1 := Lib.hid h1; have H2 := Lib.hid h2; have H5 := Lib.hid h5; clear h1 h2 h5)
  all_goals
    go_wp2
    go_ret2
    exact ⟨x, y, r', a', rfl, H1.out, H2.out.undrewN, h3, h4, H5.out⟩
set_option maxHeartbeats 2000000 in
set_option maxRecDepth 100000 in
theorem word_ok (h : RSt w f g c N l r fa fr t a R er) (hr : r < 100000) (k : Int) (hk : k = 32 ∨ k = 64) : Calls Tryz.prog 73 #[.pointer (some ⟨R, 0, none⟩), .int .i64 k] w (WR f g c N l r fa fr t a R 11 (wdF l t k a er) w) := by
  obtain ⟨W, hW⟩ : ∃ W, W = (w.alloc (.cells #[.pointer (some ⟨R, 0, none⟩)] 125)).alloc (.cells #[.int .i64 k] 3) := ⟨_, rfl⟩
  have hf0 : Fr (fun _ => False) w W := by rw [hW]; exact ((Fr.refl _ w).alloc _).alloc _
  have hb1 : Blk W w.heap.size 125 #[.pointer (some ⟨R, 0, none⟩)] := by rw [hW]; exact (Blk.new w 125 _).alloc _
  have hb2 : Blk W (w.heap.size + 1) 3 #[.int .i64 k] := by rw [hW]; exact heap2 w _ _
  have h0 := h.new hf0
  have c0 : W.cell? ⟨w.heap.size, 0, none⟩ = some (.pointer (some ⟨R, 0, none⟩)) := hb1.cell 0
  have HW := Lib.hid hW
  have HF0 := Lib.hid hf0
  have H0 := Lib.hid h0
  have HB2 := Lib.hid hb2
  have hnew : Hid (∀ w1, Fr (FR f c R) W w1 → w1.cell? ⟨w.heap.size + 1, 0, none⟩ = some (.int .i64 k)) := Lib.hid (fun w1 hf => (hb2.fr hf (by
    rintro (e | e | e)
    · have := h.st.fl.blk.lt; omega
    · have := h.st.cu.lt; omega
    · have := h.rd.lt; omega)).cell 0)
  have HC := Lib.hid (wordc_ok h0 hr w.heap.size (w.heap.size + 1) k hb1 hb2)
  have hN : Calls Tryz.prog 105 #[.pointer (some ⟨R, 0, none⟩), .func (.func 106) #[] #[.pointer (some ⟨w.heap.size, 0, none⟩), .pointer (some ⟨w.heap.size + 1, 0, none⟩)]] W (fun e w' => ∃ (x : Int) (a' er' r' : Nat), e = .returned (.int .i64 x) ∧ RSt w' f g c N l r' fa fr t a' R er' ∧ Fr (FR f c R) W w' ∧ r ≤ r' ∧ r' ≤ r + 11 ∧ Came fa r a r' x a' er' (sgF l t k a er)) := by
    have c1 : W.cell? ⟨R, 1, none⟩ = some (.int .i64 er) := h0.rd.cell 1
    clear h hW hb1 hb2 c0 hf0 h0 HF0 HW hnew HB2
    unfold NumQS at HC
    by_cases he : er = 0
    case neg =>
      have hq : (((er : Nat) : Int) != 0) = true := by rw [bne_iff_ne]; omega
      go_enter Tryz.func105, Tryz.ntmps105
      go_wp2
      go_ret
      exact ⟨0, a, er, r, rfl, H0.out, Fr.refl _ _, Nat.le_refl _, by omega, came_old he (by unfold sgF; rw [if_neg he])⟩
    subst he
    go_enter Tryz.func105, Tryz.ntmps105
    go_wp2_with (first
      | (go_at_call 106; refine HC.out.mono ?_; rintro e w1 ⟨x, y, r', a', rfl, hs, hf, h3, h4, h5⟩; have H1 := Lib.hid (H0.out.after hs hf); have HF1 := Lib.hid hf; have H5 := Lib.hid h5; have HM := Lib.hid (meet0 (H0.out.after hs hf) y); clear hs hf h5)
      | (go_at_call 99; refine HM.out.mono ?_; rintro e w2 ⟨rfl, hs, hf⟩; have H2 := Lib.hid hs; have HF2 := Lib.hid hf; clear hs hf))
    go_ret
    refine ⟨x, a', y, r', rfl, H2.out, HF1.out.fcR.trans HF2.out.oR, h3, h4, ?_⟩
    rcases H5.out with ⟨e1, e2, e3, e4, e5⟩ | ⟨e1, e2, e3, e4⟩
    · exact .inl ⟨e1, e4, e5⟩
    · refine .inr ⟨?_, e4⟩
      unfold sgF rest
      rw [if_pos rfl, e1, e2, e3]
  have HN := Lib.hid hN
  unfold WR
  clear hN h hW hb1 hb2 hf0 h0
  have HCut := Lib.hid (fun (x : Nat) W => WCut_any 32 x W)
  go_enter Tryz.func73, Tryz.ntmps73
  go_upto_region 1 with fail
  rw [← HW.out]
  go_upto_region 2 with (go_at_call 105; refine HN.out.mono ?_; rintro e w1 ⟨x, a', er', r', rfl, q2, q3, q4, q5, q6⟩; have H1 := Lib.hid (And.intro q2 (And.intro q3 q6)); have d1 := hnew.out w1 q3; clear q2 q3 q6)
  rw [(wu_eq x).1]
  have hwu := (wu_eq x).2
  have HX := Lib.hid (rfl : wu x = wu x)
  obtain ⟨z, hz⟩ : ∃ z, z = wu x := ⟨_, rfl⟩
  rw [← hz] at hwu ⊢
  have HZ := Lib.hid hz
  have hcm : Came fa r a r' (Wd.cut k z) a' er' (wdF l t k a er) := by
    rcases H1.out.2.2 with q | ⟨e, q⟩
    · exact .inl q
    · refine .inr ⟨?_, q⟩
      unfold wdF
      rw [← e, hz]
  have HCM := Lib.hid hcm
  clear hz hcm HX
  rcases hk with rfl | rfl
  · have hW32 : Calls Tryz.prog 108 #[.int .u64 z] w1 fun e w' => e = .returned (.int .u64 ((Wd.cut 32 z : Nat) : Int)) ∧ w1 = w' := by
      have H := Lib.hid (WCut_any 32 z w1)
      go_enter Tryz.func108, Tryz.ntmps108
      go_wp2_with (go_at_call 130; refine H.out.mono ?_; rintro e w2 ⟨rfl, rfl⟩)
      go_ret
      exact ⟨rfl, rfl⟩
    have HW32 := Lib.hid hW32
    clear hW32
    go_wp2_with (go_at_call 108; refine HW32.out.mono ?_; rintro e w2 ⟨rfl, rfl⟩)
    go_ret
    exact ⟨Wd.cut 32 z, a', er', r', rfl, cut_lt _ _ hwu, H1.out.1, (HF0.out.more (fun q e => e.elim)).trans H1.out.2.1, q4, q5, HCM.out⟩
  · go_wp2
    go_ret
    exact ⟨z, a', er', r', rfl, hwu, H1.out.1, (HF0.out.more (fun q e => e.elim)).trans H1.out.2.1, q4, q5, HCM.out⟩
end
end Go.Proofs.YtggfaalodojjkaaGreatDoor
/-
  instr's reader: what its steps keep, whatever they read.
-/
namespace Go.Proofs.YtggfaalodojjkaaGreatDoor
open Go.RowKit
set_option linter.unusedVariables false
set_option linter.unusedSimpArgs false
theorem rdE9 (n : Nat) : ∀ (t : List Nat) (i : Nat), (Leb.rdE n t i).2 = 0 ∨ (Leb.rdE n t i).2 = 3 ∨ (Leb.rdE n t i).2 = 4
  | [], _ => .inr (.inl rfl)
  | c :: t, i => by
    unfold Leb.rdE
    split
    · exact .inr (.inr rfl)
    · split
      · exact .inl rfl
      · exact rdE9 n t (i + 1)
theorem uns9 (l : List Nat) (k : Int) : (Leb.uns l k).2.2 ≠ 9 := by
  have := rdE9 k.toNat l 0
  unfold Leb.uns
  split
  · simp
  · split
    · split <;> simp
    · dsimp only; omega
theorem sgn9 (l : List Nat) (k : Int) : (Leb.sgn l k).2.2 ≠ 9 := by
  have := rdE9 k.toNat l 0
  unfold Leb.sgn
  split
  · simp
  · split
    · split <;> simp
    · dsimp only; omega
/-- what a reader's steps keep: an error that is a failed read's is one, and while there is none nothing failed -/
def RI (f g c N : Nat) (l : List Nat) (fr t R : Nat) (fa : Int) (a0 m : Nat) (w : World) : Prop :=
  ∃ r a er : Nat, RSt w f g c N l r fa fr t a R er ∧ (er = 0 → a0 ≤ a ∧ (r : Int) ≤ fa) ∧ (er = 9 → fa < (r : Int)) ∧ r ≤ m
section
variable {w w' : World} {f g c N : Nat} {l : List Nat} {fa : Int} {fr t R a0 m : Nat}
theorem RI.fr_ {S : Nat → Prop} (h : RI f g c N l fr t R fa a0 m w) (hf : Fr S w w') (h1 : ¬ S f) (h2 : ¬ S g) (h3 : ¬ S c) (h4 : ¬ S R) : RI f g c N l fr t R fa a0 m w' := by
  obtain ⟨r, a, er, h, q⟩ := h
  exact ⟨r, a, er, h.fr_ hf h1 h2 h3 h4, q⟩
theorem RI.new (h : RI f g c N l fr t R fa a0 m w) (hf : Fr (fun _ => False) w w') : RI f g c N l fr t R fa a0 m w' := h.fr_ hf (fun q => q) (fun q => q) (fun q => q) (fun q => q)
theorem RI.drewN (h : RI f g c N l fr t R fa a0 m w) (k : Nat) : RI f g c N l fr t R fa a0 m (w.drewN k) := by
  obtain ⟨r, a, er, h, q⟩ := h
  exact ⟨r, a, er, h.drewN k, q⟩
theorem RI.undrewN {k : Nat} (h : RI f g c N l fr t R fa a0 m (w.drewN k)) : RI f g c N l fr t R fa a0 m w := by
  obtain ⟨r, a, er, h, q⟩ := h
  exact ⟨r, a, er, h.fr_ (S := fun _ => False) ⟨rfl, rfl, rfl, Nat.le_refl _, fun _ _ _ => rfl⟩ (fun q => q) (fun q => q) (fun q => q) (fun q => q), q⟩
theorem RI.more {m' : Nat} (h : RI f g c N l fr t R fa a0 m w) (hm : m ≤ m') : RI f g c N l fr t R fa a0 m' w := by
  obtain ⟨r, a, er, h, q1, q2, q3⟩ := h
  exact ⟨r, a, er, h, q1, q2, by omega⟩
theorem RI.lt (h : RI f g c N l fr t R fa a0 m w) : f < w.heap.size ∧ g < w.heap.size ∧ c < w.heap.size ∧ R < w.heap.size := by
  obtain ⟨r, a, er, h, q⟩ := h
  exact ⟨h.st.fl.blk.lt, h.st.fl.byt.lt, h.st.cu.lt, h.rd.lt⟩
theorem RI.step {α : Type} {x : α} {r a er r' a' er' C : Nat} {F : α × Nat × Nat} (k0 : er = 0 → a0 ≤ a ∧ (r : Int) ≤ fa) (k9 : er = 9 → fa < (r : Int)) (hm : r ≤ m) (hs : RSt w' f g c N l r' fa fr t a' R er') (hc : Came fa r a r' x a' er' F) (h0 : 0 ≤ fa)
    (q1 : r ≤ r') (q2 : r' ≤ r + C) (hF : er ≠ 0 → F.2.2 = er) (h9 : er = 0 → F.2.2 ≠ 9) : RI f g c N l fr t R fa a0 (m + C) w' := by
  refine ⟨r', a', er', hs, ?_, ?_, by omega⟩
  · intro e
    rcases hc with ⟨e2, _⟩ | ⟨e2, k⟩
    · omega
    · have e3 : er' = F.2.2 := by rw [← e2]
      have he : er = 0 := by
        rcases Nat.eq_zero_or_pos er with z | z
        · exact z
        · have := hF (by omega); omega
      have := k0 he
      have := k e
      omega
  · intro e
    rcases hc with ⟨_, _, k⟩ | ⟨e2, k⟩
    · exact k
    · have e3 : er' = F.2.2 := by rw [← e2]
      by_cases he : er = 0
      · exact absurd (e3.symm.trans e) (h9 he)
      · have := hF he
        have := k9 (by omega)
        omega
/-- what a step that answers a word leaves -/
def WI (f g c N : Nat) (l : List Nat) (fr t R : Nat) (fa : Int) (a0 m : Nat) (w : World) (e : Ending) (w' : World) : Prop :=
  ∃ x : Nat, e = .returned (.int .u64 x) ∧ x < 18446744073709551616 ∧ RI f g c N l fr t R fa a0 m w' ∧ Fr (FR f c R) w w'
theorem number_i (h : RI f g c N l fr t R fa a0 m w) (h0 : 0 ≤ fa) (hm : m < 100000) (k : Int) : Calls Tryz.prog 71 #[.pointer (some ⟨R, 0, none⟩), .int .i64 k] w (WI f g c N l fr t R fa a0 (m + 11) w) := by
  obtain ⟨r, a, er, h, k0, k9, k1⟩ := h
  refine (number_ok h (by omega) k).mono ?_
  rintro e w' ⟨x, a', er', r', rfl, hx, hs, hf, q1, q2, hc⟩
  refine ⟨x, rfl, hx, RI.step k0 k9 k1 hs hc h0 q1 q2 (nuF_er l t k a er) (fun z => ?_), hf⟩
  subst z
  exact uns9 _ _
theorem word_i (h : RI f g c N l fr t R fa a0 m w) (h0 : 0 ≤ fa) (hm : m < 100000) (k : Int) (hk : k = 32 ∨ k = 64) : Calls Tryz.prog 73 #[.pointer (some ⟨R, 0, none⟩), .int .i64 k] w (WI f g c N l fr t R fa a0 (m + 11) w) := by
  obtain ⟨r, a, er, h, k0, k9, k1⟩ := h
  refine (word_ok h (by omega) k hk).mono ?_
  rintro e w' ⟨x, a', er', r', rfl, hx, hs, hf, q1, q2, hc⟩
  refine ⟨x, rfl, hx, RI.step k0 k9 k1 hs hc h0 q1 q2 (wdF_er l t k a er) (fun z => ?_), hf⟩
  subst z
  exact sgn9 _ _
theorem byF9 (a : Nat) : (byF l t a 0).2.2 ≠ 9 := by
  unfold byF
  rw [if_pos rfl]
  split <;> simp
theorem block_i (h : RI f g c N l fr t R fa a0 m w) (h0 : 0 ≤ fa) (hm : m < 100000) (hx : ∀ z ∈ l, z < 256) : Calls Tryz.prog 69 #[.pointer (some ⟨R, 0, none⟩)] w (WI f g c N l fr t R fa a0 (m + 11) w) := by
  obtain ⟨r, a, er, h, k0, k9, k1⟩ := h
  refine (blockT_ok h (by omega) hx).mono ?_
  rintro e w' ⟨x, a', er', r', rfl, hx, hs, hf, q1, q2, hc⟩
  refine ⟨x, rfl, hx, RI.step k0 k9 k1 hs hc h0 q1 (by omega) (btF_er l t a er) (fun z => ?_), hf⟩
  subst z
  have := byF9 (l := l) (t := t) a
  unfold btF
  split
  · exact this
  · dsimp only
    split <;> omega
theorem meet_i (h : RI f g c N l fr t R fa a0 m w) (e : Nat) (he : e ≠ 0) (h9 : e ≠ 9) : Calls Tryz.prog 99 #[.pointer (some ⟨R, 0, none⟩), .int .i64 e] w fun x w' => x = .returned (.tuple #[]) ∧ RI f g c N l fr t R fa a0 m w' ∧ Fr (FR f c R) w w' := by
  obtain ⟨r, a, er, h, k0, k9, k1⟩ := h
  refine (meet_ok h e).mono ?_
  rintro x w' ⟨rfl, hs, hf⟩
  refine ⟨rfl, ⟨r, a, _, hs, fun q => ?_, fun q => ?_, k1⟩, hf.oR⟩
  · split at q
    · exact absurd q he
    · rename_i hn; exact absurd q hn
  · split at q
    · exact absurd q h9
    · exact k9 q
/-- the first byte: behind it the cursor stands further -/
theorem first_i {r a : Nat} (h : RSt w f g c N l r fa fr t a R 0) (hr : (r : Int) ≤ fa) (h0 : 0 ≤ fa) (hm : r < 100000) (hx : ∀ z ∈ l, z < 256) : Calls Tryz.prog 96 #[.pointer (some ⟨R, 0, none⟩), .func (.func 97) #[.pointer (some ⟨c, 0, none⟩)] #[]] w (fun e w' => ∃ x : Nat, e = .returned (.int .u8 x) ∧ x < 256 ∧ RI f g c N l fr t R fa (a + 1) (r + 1) w' ∧ Fr (FR f c R) w w') := by
  refine (nextB_ok h hm hx).mono ?_
  rintro e w' ⟨x, a', er', r', rfl, hx, hs, hf, q1, q2, hc⟩
  refine ⟨x, rfl, hx, ⟨r', a', er', hs, fun q => ?_, fun q => ?_, q2⟩, hf⟩
  · rcases hc with ⟨e2, _⟩ | ⟨e2, k⟩
    · omega
    · subst q
      have := k rfl
      unfold byF at e2
      rw [if_pos rfl] at e2
      split at e2
      · simp only [Prod.mk.injEq] at e2; omega
      · simp only [Prod.mk.injEq] at e2; omega
  · rcases hc with ⟨_, _, k⟩ | ⟨e2, k⟩
    · exact k
    · subst q
      exact absurd (by rw [← e2]) (byF9 (l := l) (t := t) a)
end
end Go.Proofs.YtggfaalodojjkaaGreatDoor
