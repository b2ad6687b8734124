/-
  A cursor reads a number: what it answers, where it stands, also where a read fails.
-/
import Derived.Test.YtchdcimmbmphnaaFh
namespace Go.Proofs.Ytchdcimmbmphnaa
open Go.RowKit
set_option linter.unusedVariables false
theorem uns_nil (k : Int) : (Leb.uns [] k).2.2 ≠ 0 := by
  unfold Leb.uns
  split
  · simp
  · simp [Leb.rdE]
theorem sgn_nil (k : Int) : (Leb.sgn [] k).2.2 ≠ 0 := by
  unfold Leb.sgn
  split
  · simp
  · simp [Leb.rdE]
theorem own_form {w : World} {B E n : Nat} {v : Value} {xs : List Value} (h : w.ownsRow B E 1 v n xs) (hn : 0 < n) : ∃ g cap, v = .slice (some ⟨g, 0, none⟩) n cap := by
  rcases h.2 with ⟨_, h0⟩ | ⟨g, cap, _, hv, _⟩
  · omega
  · exact ⟨g, cap, hv⟩
theorem NRel.own_after {w wr w1 : World} {f g c N r fr t a h j cp : Nat} {l : List Nat} {fa : Int} {A : Option Addr} (q : NRel w f g c N l r fa fr t a h j A cp wr) (f1 : Fr (FC f h) wr w1) :
    w1.ownsRow (h + 1) 5 1 (.slice A j cp) j ((((l.drop a).take (t - a)).take j).map U8) := by
  refine ⟨q.own.1, ?_⟩
  rcases q.own.2 with h0 | ⟨g1, cap, cur, hv, hB, hg, hr⟩
  · exact .inl h0
  · refine .inr ⟨g1, cap, cur, hv, hB, f1.keep hg (fun e => ?_), hr⟩
    have := q.fl
    have := q.hh
    rcases e with e | e <;> omega

set_option maxHeartbeats 2000000 in
set_option maxRecDepth 100000 in
theorem number_u64 (w : World) (f g c N : Nat) (l : List Nat) (r : Nat) (fa : Int) (fr t a : Nat) (k : Int) (h : St w f g c N l r fa fr t a) (hr : r < 100000) :
    Calls Try.prog 49 #[.pointer (some ⟨c, 0, none⟩), .int .i64 k, .func (.func 14) #[] #[]] w (NumPost f g c N l r fa fr t a k w) := by
  obtain ⟨i0, hi, hz0, hz1, hz2⟩ := info_parts info5
  have c0 : w.cell? ⟨c, 0, none⟩ = some (.pointer (some ⟨f, 0, none⟩)) := h.cu.cell 0
  have c1 : w.cell? ⟨c, 1, none⟩ = some (.int .i64 fr) := h.cu.cell 1
  have c2 : w.cell? ⟨c, 2, none⟩ = some (.int .i64 t) := h.cu.cell 2
  have c3 : w.cell? ⟨c, 3, none⟩ = some (.int .i64 a) := h.cu.cell 3
  obtain ⟨R, hR⟩ : ∃ R, R = (l.drop a).take (t - a) := ⟨_, rfl⟩
  have hRl : Hid (R.length = t - a) := Lib.hid (by rw [hR, List.length_take, List.length_drop]; have := h.fl.len; have := h.h3; omega)
  have H0 : Hid (NRel w f g c N l r fa fr t a w.heap.size 0 none 0 (w.alloc (.cells (cuC f fr t a) 92))) := Lib.hid (by
    have hn := Blk.new w 92 (cuC f fr t a)
    exact ⟨⟨⟨h.fl.blk.alloc _, h.fl.byt.alloc _, h.fl.len, h.fl.lim, h.fl.all⟩, h.cu.alloc _, h.h1, h.h2, h.h3⟩, hn, (Fr.refl _ _).alloc _, by simpa using World.ownsRow_nil _ _ _ _, rfl, by simp, by omega, h.cu.lt, h.fl.blk.lt, h.fl.byt.lt⟩)
  have HRE := Lib.hid hR
  have hat := h.h2
  have htN : t ≤ 65536 := Nat.le_trans h.h3 h.fl.lim
  have hNN : Hid (l.length = N ∧ t ≤ N) := Lib.hid ⟨h.fl.len, h.h3⟩
  clear h hR
  go_enter Try.func49, Try.ntmps49
  go_wp2_with (go_at_call 14; refine (unsigned_any none 0 0 [] k _ (byt_nil _)).mono ?_; rintro e w' ⟨rfl, rfl⟩)
  go_loopw [9, 10, 12] (fun v9 v10 v12 wr => ∃ (j : Nat) (A : Option Addr) (cp : Nat) (x : Nat) (y : Nat), j ≤ t - a ∧ v9 = .slice A j cp ∧ v10 = .int .u64 x ∧ v12 = .int .i64 y ∧ Hid (x = (Leb.uns (R.take j) k).1) ∧ Hid (y = (Leb.uns (R.take j) k).2.2) ∧ Hid (0 < j → (Leb.uns (R.take (j - 1)) k).2.2 = 3) ∧ Hid (NRel w f g c N l r fa fr t a w.heap.size j A cp wr)) (fun v9 _ _ _ => t - a - lenV v9)
  case atStart => exact ⟨0, none, 0, _, _, by omega, rfl, rfl, rfl, Lib.hid rfl, Lib.hid rfl, Lib.hid (fun q => by omega), H0⟩
  case round =>
    obtain ⟨j, A, cp, x, y, hj, rfl, rfl, rfl, Hx, Hy, Hl, HN⟩ := hrel
    clear c0 c1 c2 c3
    have hRj : Hid (R.take j ++ R.drop j = R) := Lib.hid (List.take_append_drop j R)
    by_cases hy3 : y = 3
    · subst hy3
      have hj9 : j ≤ 9 := by
        have q := uns_len _ _ Hy.out.symm
        rw [List.length_take, hRl.out] at q
        omega
      have hja := HN.out.ahead hj
      by_cases hjt : j < t - a
      · by_cases hfa : fa < 0 ∨ (0 ≤ fa ∧ ((r + j : Nat) : Int) < fa)
        · have HB := Lib.hid (Byte_ok wr f g w.heap.size N l (r + j) fa fr t (a + j) hja (by omega) (by omega) hfa)
          clear hja hfa
          obtain ⟨z, hz⟩ : ∃ z, z = l.getD (a + j) 0 := ⟨_, rfl⟩
          rw [← hz] at HB
          have HZ := Lib.hid hz
          clear hz
          have HE3 : Hid ((Leb.uns (R.take (j + 1 - 1)) k).2.2 = 3) := Lib.hid Hy.out.symm
          go_wp2_with (first
            | (go_at_call 28; refine HB.out.mono ?_; rintro e w1 ⟨rfl, hs1, hf1⟩; have HS1 := Lib.hid hs1; have HF1 := Lib.hid hf1; have HO1 : Hid (w1.ownsRow (w.heap.size + 1) 5 1 (.slice A j cp) j ((((l.drop a).take (t - a)).take j).map U8)) := Lib.hid (HN.out.own_after hf1); have hB1 : Hid (w.heap.size + 1 ≤ w1.heap.size) := Lib.hid (Nat.le_trans HN.out.hs hf1.size); clear hs1 hf1)
            | (at_builtin
               refine wpList_append_own _ rfl (.tmp 37) (.tmp 39) 22 rfl (w.heap.size + 1) 5 i0 _ 1 1 Try.underlying22 hi hz0 hz1 hz2 rfl (by decide) (.slice A j cp) j _ rfl (HO1.out.alloc _) ⟨w1.heap.size, 0, none⟩ 1 1 [U8 z] rfl rfl (cell_new _ _ _) ?d1 ?d2 ?d3 ?d4 ?_
               case d1 => intro u hu; simp at hu; subst hu; rfl
               case d2 => unfold maxLen; omega
               case d3 => omega
               case d4 => have := hB1.out; simp; omega
               intro v2 w2 hown2 hg2 _
               obtain ⟨g2, cp2, hv2⟩ : ∃ g2 cp2, v2 = .slice (some ⟨g2, 0, none⟩) (j + 1) cp2 := own_form hown2 (by omega)
               rw [hv2] at hown2 ⊢
               have HN2 : Hid (NRel w f g c N l r fa fr t a w.heap.size (j + 1) (some ⟨g2, 0, none⟩) cp2 w2) := Lib.hid (HN.out.next hjt hj9 HS1.out HF1.out (by rw [← HZ.out]; exact hown2) hg2)
               clear hown2 hg2 hv2)
            | (go_at_call 14; refine (unsigned_any _ _ _ (R.take (j + 1)) k _ (by rw [HRE.out]; exact HN2.out.byt)).mono ?_; rintro e w3 ⟨rfl, rfl⟩))
          go_roundw
          case rel => exact ⟨j + 1, some ⟨g2, 0, none⟩, cp2, _, _, by omega, rfl, rfl, rfl, Lib.hid rfl, Lib.hid rfl, Lib.hid (fun _ => HE3.out), HN2⟩
          case measure => simp [lenV]; omega
        · have hfa2 : 0 ≤ fa ∧ fa ≤ ((r + j : Nat) : Int) := by omega
          have HB := Lib.hid (Byte_fail wr f g w.heap.size N l (r + j) fa fr t (a + j) hja (by omega) (by omega) hfa2.1 hfa2.2)
          have HFA := Lib.hid hfa2
          clear hja hfa hfa2
          go_wp2_with (go_at_call 28; refine HB.out.mono ?_; rintro e w1 ⟨rfl, hs1, hf1⟩; have HS1 := Lib.hid hs1; have HF1 := Lib.hid hf1; clear hs1 hf1)
          go_ret2
          have hq := HN.out
          have hcu : Blk w1 c 92 (cuC f fr t a) := hq.st.cu.fr HF1.out (fun e => by
            rcases e with e | e
            · exact hq.st.fc e.symm
            · have := hq.cl; omega)
          refine ⟨0, 9, r + j + 1, a, rfl, ⟨HS1.out.fl, hcu, hq.st.h1, hq.st.h2, hq.st.h3⟩, ?_, by omega, by omega, .inl ⟨rfl, rfl, rfl, HFA.out.1, by have := HFA.out.2; omega⟩⟩
          exact (hq.fr_.more (fun i hi => .inl hi)).new_ HF1.out (fun i hi => by
            rcases hi with e | e
            · exact .inl (.inl e)
            · exact .inr (by omega))
      · have HB := Lib.hid (Byte_bad wr f g w.heap.size N l (r + j) fa fr t (a + j) hja (by omega))
        have HU : Hid (Leb.uns R k = Leb.uns (R.take j) k) := Lib.hid (by rw [List.take_of_length_le (by rw [hRl.out]; omega)])
        clear hja
        go_wp2_with (go_at_call 28; refine HB.out.mono ?_; rintro e w1 ⟨rfl, k1, rfl⟩)
        go_ret2
        have hq := HN.out
        have hz := uns_zero (R.take j) k (by rw [← Hy.out]; decide)
        refine ⟨0, 3, r + j, a, rfl, hq.st.drewN _, (hq.fr_.more (fun i hi => .inl hi)).drewN _, by omega, by omega, .inr ?_⟩
        rw [← HRE.out, HU.out, hz.1, hz.2, ← Hy.out]
        exact ⟨rfl, rfl, rfl⟩
    · have HU : Hid (Leb.uns R k = Leb.uns (R.take j) k) := Lib.hid (by
        have := uns_app (R.take j) (R.drop j) k (fun e => hy3 (by rw [Hy.out, e]))
        rw [hRj.out] at this; exact this)
      have hyb : (((y : Nat) : Int) == 3) = false := by
        have := dec_beq y 3
        rw [show ((3 : Nat) : Int) = 3 from rfl] at this
        rw [this]; simp [hy3]
      have h10 : j ≤ 10 := HN.out.j10
      clear hy3
      by_cases hy0 : y = 0
      · subst hy0
        have hj0 : 0 < j := by
          rcases Nat.eq_zero_or_pos j with e | e
          · subst e
            exact absurd Hy.out.symm (uns_nil k)
          · exact e
        have HSZ : Hid ((Leb.uns (R.take j) k).2.1 = j) := Lib.hid (by
          have hjR : j - 1 < R.length := by rw [hRl.out]; omega
          have e := List.take_succ_eq_append_getElem hjR
          rw [show j - 1 + 1 = j by omega] at e
          have h0 := Hy.out.symm
          rw [e] at h0 ⊢
          rw [uns_last _ _ _ (Hl.out hj0) h0, List.length_take]
          omega)
        have a3 : wr.cell? ⟨w.heap.size, 3, none⟩ = some (.int .i64 (a + j : Nat)) := HN.out.ah.cell 3
        have d3 : wr.cell? ⟨c, 3, none⟩ = some (.int .i64 a) := HN.out.st.cu.cell 3
        have z3 := HN.out.st.cu.frozen 3
        go_wp2
        go_ret2
        have hq := HN.out
        have hmv := hq.st.moved (a + j) (by have := hq.st.h1; omega) (by omega)
        have hfin : Fr (FC f c) w (wr.setCell ⟨c, 3, none⟩ (.int .i64 ((a + j : Nat) : Int))) := (hq.fr_.more (fun i hi => .inl hi)).set_ (p := ⟨c, 3, none⟩) (.inr rfl) _
        rw [Int.natCast_add] at hmv hfin
        refine ⟨x, 0, r + j, a + j, rfl, hmv, hfin, by omega, by omega, .inr ?_⟩
        rw [← HRE.out, HU.out, HSZ.out]
        exact ⟨Hx.out, Hy.out, rfl⟩
      · have hyz : (((y : Nat) : Int) == 0) = false := by
          have := dec_beq y 0
          rw [show ((0 : Nat) : Int) = 0 from rfl] at this
          rw [this]; simp [hy0]
        have HZ := Lib.hid (uns_zero (R.take j) k (by rw [← Hy.out]; exact hy0))
        clear hy0
        go_wp2
        go_ret2
        have hq := HN.out
        refine ⟨x, y, r + j, a, rfl, hq.st, hq.fr_.more (fun i hi => .inl hi), by omega, by omega, .inr ?_⟩
        rw [← HRE.out, HU.out, HZ.out.2]
        exact ⟨Hx.out, Hy.out, rfl⟩

set_option maxHeartbeats 2000000 in
set_option maxRecDepth 100000 in
theorem number_i64 (w : World) (f g c N : Nat) (l : List Nat) (r : Nat) (fa : Int) (fr t a : Nat) (k : Int) (h : St w f g c N l r fa fr t a) (hr : r < 100000) :
    Calls Try.prog 50 #[.pointer (some ⟨c, 0, none⟩), .int .i64 k, .func (.func 16) #[] #[]] w (NumPostS f g c N l r fa fr t a k w) := by
  obtain ⟨i0, hi, hz0, hz1, hz2⟩ := info_parts info5
  have c0 : w.cell? ⟨c, 0, none⟩ = some (.pointer (some ⟨f, 0, none⟩)) := h.cu.cell 0
  have c1 : w.cell? ⟨c, 1, none⟩ = some (.int .i64 fr) := h.cu.cell 1
  have c2 : w.cell? ⟨c, 2, none⟩ = some (.int .i64 t) := h.cu.cell 2
  have c3 : w.cell? ⟨c, 3, none⟩ = some (.int .i64 a) := h.cu.cell 3
  obtain ⟨R, hR⟩ : ∃ R, R = (l.drop a).take (t - a) := ⟨_, rfl⟩
  have hRl : Hid (R.length = t - a) := Lib.hid (by rw [hR, List.length_take, List.length_drop]; have := h.fl.len; have := h.h3; omega)
  have H0 : Hid (NRel w f g c N l r fa fr t a w.heap.size 0 none 0 (w.alloc (.cells (cuC f fr t a) 92))) := Lib.hid (by
    have hn := Blk.new w 92 (cuC f fr t a)
    exact ⟨⟨⟨h.fl.blk.alloc _, h.fl.byt.alloc _, h.fl.len, h.fl.lim, h.fl.all⟩, h.cu.alloc _, h.h1, h.h2, h.h3⟩, hn, (Fr.refl _ _).alloc _, by simpa using World.ownsRow_nil _ _ _ _, rfl, by simp, by omega, h.cu.lt, h.fl.blk.lt, h.fl.byt.lt⟩)
  have HRE := Lib.hid hR
  have hat := h.h2
  have htN : t ≤ 65536 := Nat.le_trans h.h3 h.fl.lim
  have hNN : Hid (l.length = N ∧ t ≤ N) := Lib.hid ⟨h.fl.len, h.h3⟩
  clear h hR
  go_enter Try.func50, Try.ntmps50
  go_wp2_with (go_at_call 16; refine (signed_any none 0 0 [] k _ (byt_nil _)).mono ?_; rintro e w' ⟨rfl, rfl⟩)
  go_loopw [9, 10, 12] (fun v9 v10 v12 wr => ∃ (j : Nat) (A : Option Addr) (cp : Nat) (x : Int) (y : Nat), j ≤ t - a ∧ v9 = .slice A j cp ∧ v10 = .int .i64 x ∧ v12 = .int .i64 y ∧ Hid (x = (Leb.sgn (R.take j) k).1) ∧ Hid (y = (Leb.sgn (R.take j) k).2.2) ∧ Hid (0 < j → (Leb.sgn (R.take (j - 1)) k).2.2 = 3) ∧ Hid (NRel w f g c N l r fa fr t a w.heap.size j A cp wr)) (fun v9 _ _ _ => t - a - lenV v9)
  case atStart => exact ⟨0, none, 0, _, _, by omega, rfl, rfl, rfl, Lib.hid rfl, Lib.hid rfl, Lib.hid (fun q => by omega), H0⟩
  case round =>
    obtain ⟨j, A, cp, x, y, hj, rfl, rfl, rfl, Hx, Hy, Hl, HN⟩ := hrel
    clear c0 c1 c2 c3
    have hRj : Hid (R.take j ++ R.drop j = R) := Lib.hid (List.take_append_drop j R)
    by_cases hy3 : y = 3
    · subst hy3
      have hj9 : j ≤ 9 := by
        have q := sgn_len _ _ Hy.out.symm
        rw [List.length_take, hRl.out] at q
        omega
      have hja := HN.out.ahead hj
      by_cases hjt : j < t - a
      · by_cases hfa : fa < 0 ∨ (0 ≤ fa ∧ ((r + j : Nat) : Int) < fa)
        · have HB := Lib.hid (Byte_ok wr f g w.heap.size N l (r + j) fa fr t (a + j) hja (by omega) (by omega) hfa)
          clear hja hfa
          obtain ⟨z, hz⟩ : ∃ z, z = l.getD (a + j) 0 := ⟨_, rfl⟩
          rw [← hz] at HB
          have HZ := Lib.hid hz
          clear hz
          have HE3 : Hid ((Leb.sgn (R.take (j + 1 - 1)) k).2.2 = 3) := Lib.hid Hy.out.symm
          go_wp2_with (first
            | (go_at_call 28; refine HB.out.mono ?_; rintro e w1 ⟨rfl, hs1, hf1⟩; have HS1 := Lib.hid hs1; have HF1 := Lib.hid hf1; have HO1 : Hid (w1.ownsRow (w.heap.size + 1) 5 1 (.slice A j cp) j ((((l.drop a).take (t - a)).take j).map U8)) := Lib.hid (HN.out.own_after hf1); have hB1 : Hid (w.heap.size + 1 ≤ w1.heap.size) := Lib.hid (Nat.le_trans HN.out.hs hf1.size); clear hs1 hf1)
            | (at_builtin
               refine wpList_append_own _ rfl (.tmp 37) (.tmp 39) 22 rfl (w.heap.size + 1) 5 i0 _ 1 1 Try.underlying22 hi hz0 hz1 hz2 rfl (by decide) (.slice A j cp) j _ rfl (HO1.out.alloc _) ⟨w1.heap.size, 0, none⟩ 1 1 [U8 z] rfl rfl (cell_new _ _ _) ?d1 ?d2 ?d3 ?d4 ?_
               case d1 => intro u hu; simp at hu; subst hu; rfl
               case d2 => unfold maxLen; omega
               case d3 => omega
               case d4 => have := hB1.out; simp; omega
               intro v2 w2 hown2 hg2 _
               obtain ⟨g2, cp2, hv2⟩ : ∃ g2 cp2, v2 = .slice (some ⟨g2, 0, none⟩) (j + 1) cp2 := own_form hown2 (by omega)
               rw [hv2] at hown2 ⊢
               have HN2 : Hid (NRel w f g c N l r fa fr t a w.heap.size (j + 1) (some ⟨g2, 0, none⟩) cp2 w2) := Lib.hid (HN.out.next hjt hj9 HS1.out HF1.out (by rw [← HZ.out]; exact hown2) hg2)
               clear hown2 hg2 hv2)
            | (go_at_call 16; refine (signed_any _ _ _ (R.take (j + 1)) k _ (by rw [HRE.out]; exact HN2.out.byt)).mono ?_; rintro e w3 ⟨rfl, rfl⟩))
          go_roundw
          case rel => exact ⟨j + 1, some ⟨g2, 0, none⟩, cp2, _, _, by omega, rfl, rfl, rfl, Lib.hid rfl, Lib.hid rfl, Lib.hid (fun _ => HE3.out), HN2⟩
          case measure => simp [lenV]; omega
        · have hfa2 : 0 ≤ fa ∧ fa ≤ ((r + j : Nat) : Int) := by omega
          have HB := Lib.hid (Byte_fail wr f g w.heap.size N l (r + j) fa fr t (a + j) hja (by omega) (by omega) hfa2.1 hfa2.2)
          have HFA := Lib.hid hfa2
          clear hja hfa hfa2
          go_wp2_with (go_at_call 28; refine HB.out.mono ?_; rintro e w1 ⟨rfl, hs1, hf1⟩; have HS1 := Lib.hid hs1; have HF1 := Lib.hid hf1; clear hs1 hf1)
          go_ret2
          have hq := HN.out
          have hcu : Blk w1 c 92 (cuC f fr t a) := hq.st.cu.fr HF1.out (fun e => by
            rcases e with e | e
            · exact hq.st.fc e.symm
            · have := hq.cl; omega)
          refine ⟨0, 9, r + j + 1, a, rfl, ⟨HS1.out.fl, hcu, hq.st.h1, hq.st.h2, hq.st.h3⟩, ?_, by omega, by omega, .inl ⟨rfl, rfl, rfl, HFA.out.1, by have := HFA.out.2; omega⟩⟩
          exact (hq.fr_.more (fun i hi => .inl hi)).new_ HF1.out (fun i hi => by
            rcases hi with e | e
            · exact .inl (.inl e)
            · exact .inr (by omega))
      · have HB := Lib.hid (Byte_bad wr f g w.heap.size N l (r + j) fa fr t (a + j) hja (by omega))
        have HU : Hid (Leb.sgn R k = Leb.sgn (R.take j) k) := Lib.hid (by rw [List.take_of_length_le (by rw [hRl.out]; omega)])
        clear hja
        go_wp2_with (go_at_call 28; refine HB.out.mono ?_; rintro e w1 ⟨rfl, k1, rfl⟩)
        go_ret2
        have hq := HN.out
        have hz := sgn_zero (R.take j) k (by rw [← Hy.out]; decide)
        refine ⟨0, 3, r + j, a, rfl, hq.st.drewN _, (hq.fr_.more (fun i hi => .inl hi)).drewN _, by omega, by omega, .inr ?_⟩
        rw [← HRE.out, HU.out, hz.1, hz.2, ← Hy.out]
        exact ⟨rfl, rfl, rfl⟩
    · have HU : Hid (Leb.sgn R k = Leb.sgn (R.take j) k) := Lib.hid (by
        have := sgn_app (R.take j) (R.drop j) k (fun e => hy3 (by rw [Hy.out, e]))
        rw [hRj.out] at this; exact this)
      have hyb : (((y : Nat) : Int) == 3) = false := by
        have := dec_beq y 3
        rw [show ((3 : Nat) : Int) = 3 from rfl] at this
        rw [this]; simp [hy3]
      have h10 : j ≤ 10 := HN.out.j10
      clear hy3
      by_cases hy0 : y = 0
      · subst hy0
        have hj0 : 0 < j := by
          rcases Nat.eq_zero_or_pos j with e | e
          · subst e
            exact absurd Hy.out.symm (sgn_nil k)
          · exact e
        have HSZ : Hid ((Leb.sgn (R.take j) k).2.1 = j) := Lib.hid (by
          have hjR : j - 1 < R.length := by rw [hRl.out]; omega
          have e := List.take_succ_eq_append_getElem hjR
          rw [show j - 1 + 1 = j by omega] at e
          have h0 := Hy.out.symm
          rw [e] at h0 ⊢
          rw [sgn_last _ _ _ (Hl.out hj0) h0, List.length_take]
          omega)
        have a3 : wr.cell? ⟨w.heap.size, 3, none⟩ = some (.int .i64 (a + j : Nat)) := HN.out.ah.cell 3
        have d3 : wr.cell? ⟨c, 3, none⟩ = some (.int .i64 a) := HN.out.st.cu.cell 3
        have z3 := HN.out.st.cu.frozen 3
        go_wp2
        go_ret2
        have hq := HN.out
        have hmv := hq.st.moved (a + j) (by have := hq.st.h1; omega) (by omega)
        have hfin : Fr (FC f c) w (wr.setCell ⟨c, 3, none⟩ (.int .i64 ((a + j : Nat) : Int))) := (hq.fr_.more (fun i hi => .inl hi)).set_ (p := ⟨c, 3, none⟩) (.inr rfl) _
        rw [Int.natCast_add] at hmv hfin
        refine ⟨x, 0, r + j, a + j, rfl, hmv, hfin, by omega, by omega, .inr ?_⟩
        rw [← HRE.out, HU.out, HSZ.out]
        exact ⟨Hx.out, Hy.out, rfl⟩
      · have hyz : (((y : Nat) : Int) == 0) = false := by
          have := dec_beq y 0
          rw [show ((0 : Nat) : Int) = 0 from rfl] at this
          rw [this]; simp [hy0]
        have HZ := Lib.hid (sgn_zero (R.take j) k (by rw [← Hy.out]; exact hy0))
        clear hy0
        go_wp2
        go_ret2
        have hq := HN.out
        refine ⟨x, y, r + j, a, rfl, hq.st, hq.fr_.more (fun i hi => .inl hi), by omega, by omega, .inr ?_⟩
        rw [← HRE.out, HU.out, HZ.out.2]
        exact ⟨Hx.out, Hy.out, rfl⟩
end Go.Proofs.Ytchdcimmbmphnaa
