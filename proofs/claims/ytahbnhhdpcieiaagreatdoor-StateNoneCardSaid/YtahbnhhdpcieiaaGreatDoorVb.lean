/-
  An arena's Size and Height; pager.take, where that many rooms can be cut off; block.New.
-/
import Derived.Test.YtahbnhhdpcieiaaGreatDoorAh
namespace Go.Proofs.YtahbnhhdpcieiaaGreatDoor
open Go.RowKit
set_option linter.unusedVariables false
set_option linter.unusedSimpArgs false
section
variable {a bb rm gm : Nat} {d : Ad} {w : World}
set_option maxRecDepth 100000 in
theorem Height_any (h : Are w a bb rm gm d) : Calls Tryz.prog 70 #[.pointer (some ⟨a, 0, none⟩)] w fun e w' => e = .returned (.int .i64 d.height) ∧ w = w' := by
  have c4 : w.cell? ⟨a, 4, none⟩ = some (.int .i64 d.height) := h.blk.cell 4
  clear h
  go_enter Tryz.func70, Tryz.ntmps70
  go_wp2
  go_ret
  exact ⟨rfl, rfl⟩
set_option maxRecDepth 100000 in
theorem ASize_any (h : Are w a bb rm gm d) : Calls Tryz.prog 69 #[.pointer (some ⟨a, 0, none⟩)] w fun e w' => e = .returned (.int .i64 d.sz) ∧ w = w' := by
  have c0 : w.cell? ⟨a, 0, none⟩ = some (.slice (some ⟨bb, 0, none⟩) d.sz d.sz) := h.blk.cell 0
  clear h
  go_enter Tryz.func69, Tryz.ntmps69
  go_wp2
  go_ret
  exact ⟨rfl, rfl⟩
end
set_option maxHeartbeats 1000000 in
set_option maxRecDepth 100000 in
theorem SNew_64 (w : World) : Calls Tryz.prog 25 #[.int .i64 64, .int .i64 4096] w fun e w' => e = .returned (.tuple #[.pointer (some ⟨w.heap.size + 1, 0, none⟩), .int .i64 0]) ∧ Below w.heap.size w w' ∧ w'.heap.size = w.heap.size + 2 ∧ w'.cell? ⟨w.heap.size + 1, 0, none⟩ = some (.int .i64 64) := by
  have hmm := @run_makeMap Tryz.prog
  go_enter Tryz.func25, Tryz.ntmps25
  go_wp2
  go_ret2
  refine ⟨by simp, ((Below.refl _ _).alloc (Nat.le_refl _) _).alloc (by simp) _, by simp, ?_⟩
  have h := fun cs => (Blk.new (w.alloc (Obj.map #[] 0)) 164 cs).cell 0
  simp only [World.size_alloc] at h
  exact h _
set_option maxRecDepth 100000 in
theorem SSize_any (s : Nat) (n : Int) (w : World) (h : w.cell? ⟨s, 0, none⟩ = some (.int .i64 n)) : Calls Tryz.prog 62 #[.pointer (some ⟨s, 0, none⟩)] w fun e w' => e = .returned (.int .i64 n) ∧ w = w' := by
  go_enter Tryz.func62, Tryz.ntmps62
  go_wp2
  go_ret
  exact ⟨rfl, rfl⟩
theorem own_slice {base : Nat} {w : World} {v : Value} {n : Nat} {xs : List Value} (h : w.ownsRow base 3 1 v n xs) : ∃ A cp, v = .slice A n cp := by
  rcases h.2 with ⟨e, h0⟩ | ⟨g, cap, cur, e, _⟩
  · subst h0; exact ⟨_, _, e⟩
  · exact ⟨_, _, e⟩
def TR (h c k : Nat) : List Value := (List.range k).map fun i => I64 (h + i * c)
theorem TR_succ (h c k : Nat) : TR h c (k + 1) = TR h c k ++ [Value.int .i64 ((h + k * c : Nat) : Int)] := by simp [TR, List.range_succ, I64]
/-- k rooms of class c were cut off, one after another -/
structure TkI (a bb rm gm : Nat) (d d' : Ad) (c j : Nat) (w w' : World) : Prop where
  are : Are w' a bb rm gm d'
  sz : d'.sz = d.sz
  height : d'.height = d.height + j * c
  gn : ∀ q, d'.G q = []
  live : d'.live = d'.height
  ops : d'.ops = d.ops + j
  fr : Fr (arb a bb rm gm) w w'
theorem TkI.next {a bb rm gm : Nat} {d d' : Ad} {c j : Nat} {n : Int} {w w1 w2 : World} (h : TkI a bb rm gm d d' c j w w1) (hc : cl n = c) (ha : Are w2 a bb rm gm ((d'.cut (cl n)).take d'.height (cl n))) (hf : Fr (arb a bb rm gm) w1 w2) : TkI a bb rm gm d ((d'.cut (cl n)).take d'.height (cl n)) c (j + 1) w w2 := by
  subst hc
  refine ⟨ha, h.sz, ?_, h.gn, ?_, ?_, h.fr.trans hf⟩
  · show d'.height + cl n = _
    rw [h.height, Nat.succ_mul]; omega
  · show d'.live + (cl n : Int) = ((d'.height + cl n : Nat) : Int)
    rw [h.live]; push_cast; rfl
  · show d'.ops + 1 = _
    rw [h.ops]; omega
theorem TkI.more {a bb rm gm : Nat} {d d' : Ad} {c j : Nat} {w w1 w2 : World} {S : Nat → Prop} (h : TkI a bb rm gm d d' c j w w1) (hf : Fr S w1 w2) (hS : ∀ q, S q → ¬ arb a bb rm gm q ∧ w.heap.size ≤ q) : TkI a bb rm gm d d' c j w w2 := by
  refine ⟨h.are.fr hf (fun q hq hs => ?_), h.sz, h.height, h.gn, h.live, h.ops, h.fr.trans_new (hf) (fun q hq => .inr (hS q hq).2)⟩
  rcases hq with q1 | q1 | q1 | q1 | ⟨c', hc', _⟩
  · exact (hS q hs).1 (.inl q1)
  · exact (hS q hs).1 (.inr (.inl q1))
  · exact (hS q hs).1 (.inr (.inr (.inl q1)))
  · exact (hS q hs).1 (.inr (.inr (.inr q1)))
  · exact hc' (h.gn c')
theorem quo_ge {x c k : Nat} (hc : 1 ≤ c) (h : k * c ≤ x) : (k : Int) ≤ (x : Int) / (c : Int) := by
  have : k ≤ x / c := (Nat.le_div_iff_mul_le (by omega)).2 h
  omega
def TkPost (a bb rm gm : Nat) (d : Ad) (c k : Nat) (w : World) (e : Ending) (w' : World) : Prop :=
  ∃ (A : Option Addr) (cp : Nat) (d' : Ad), e = .returned (.tuple #[.slice A k cp, .int .i64 0]) ∧ w'.ownsRow w.heap.size 3 1 (.slice A k cp) k (TR d.height c k) ∧ TkI a bb rm gm d d' c k w w'
def slLen : Value → Nat
  | .slice _ n _ => n
  | _ => 0
set_option maxHeartbeats 2000000 in
set_option maxRecDepth 100000 in
theorem take_ok {w : World} {a bb rm gm : Nat} {d : Ad} (h : Are w a bb rm gm d) (sz c k : Nat) (hsz : sz ≤ 4194304) (hc : cl (sz : Int) = c) (hk1 : 1 ≤ k) (hk2 : k ≤ 64) (hG : ∀ q, d.G q = []) (hl : d.live = d.height) (hfit : d.height + k * c ≤ d.sz) (ho : d.ops < 900000) : Calls Tryz.prog 61 #[.pointer (some ⟨a, 0, none⟩), .int .i64 sz, .int .i64 k] w (TkPost a bb rm gm d c k w) := by
  obtain ⟨i0, hii, hz0, hz1, hz2⟩ := info_parts info3
  have HC := Lib.hid (Class_any (sz : Int) w (by omega))
  rw [hc] at HC
  have HH := Lib.hid (Height_any h)
  have HS := Lib.hid (ASize_any h)
  have HL := Lib.hid (Live_any h)
  rw [hl] at HL
  have hc1 : 16 ≤ c := by rw [← hc]; exact cl_lo _
  have hc2 : c ≤ 4194304 := by rw [← hc]; exact cl_hi _
  have hlim := h.lim
  have hhs := h.hsz
  have hq := quo_ge (x := d.sz - d.height) (k := k) (by omega : 1 ≤ c) (by omega)
  rw [Int.natCast_sub hhs] at hq
  have hq2 : ((d.sz : Int) - (d.height : Int)) / (c : Int) ≤ 4194304 := by
    have := Int.ediv_le_self (b := (c : Int)) (show (0 : Int) ≤ (d.sz : Int) - (d.height : Int) by omega)
    omega
  have hqe : ((d.sz : Int) - (d.height : Int)).tdiv (c : Int) = ((d.sz : Int) - (d.height : Int)) / (c : Int) := Int.tdiv_eq_ediv_of_nonneg (by omega)
  obtain ⟨q, eq⟩ : ∃ q, q = ((d.sz : Int) - (d.height : Int)) / (c : Int) := ⟨_, rfl⟩
  rw [← eq] at hq hq2 hqe
  clear eq
  have h0 : ((0 : Int)).tdiv (c : Int) = 0 := Int.zero_tdiv _
  have H := Lib.hid h
  have HK := Lib.hid hc
  have HG := Lib.hid hG
  have HLv := Lib.hid hl
  clear h hc hG hl
  go_enter Tryz.func61, Tryz.ntmps61
  go_wp2_with (first
    | (go_at_call 24; refine HC.out.mono ?_; rintro e w1 ⟨rfl, rfl⟩)
    | (go_at_call 70; refine HH.out.mono ?_; rintro e w1 ⟨rfl, rfl⟩)
    | (go_at_call 69; refine HS.out.mono ?_; rintro e w1 ⟨rfl, rfl⟩)
    | (go_at_call 23; refine HL.out.mono ?_; rintro e w1 ⟨rfl, rfl⟩))
  clear hq2 hqe h0
  go_loopw [12] (fun v12 wr => ∃ (j : Nat) (A : Option Addr) (cp : Nat) (d1 : Ad), j ≤ k ∧ v12 = .slice A j cp ∧ Hid (TkI a bb rm gm d d1 c j w wr) ∧ Hid (wr.ownsRow w.heap.size 3 1 (.slice A j cp) j (TR d.height c j))) (fun v12 _ => k - slLen v12)
  case atStart => exact ⟨0, none, 0, d, Nat.zero_le _, rfl, Lib.hid ⟨H.out, rfl, by omega, HG.out, HLv.out, rfl, Fr.refl _ _⟩, Lib.hid (World.ownsRow_nil w _ 3 1)⟩
  case round =>
    obtain ⟨j, A, cp, d1, hj, rfl, HT, HO⟩ := hrel
    by_cases hlt : j < k
    · have hmul : (j + 1) * c ≤ k * c := Nat.mul_le_mul_right c hlt
      rw [Nat.succ_mul] at hmul
      have hd1h : d1.height = d.height + j * c := HT.out.height
      have hd1o := HT.out.ops
      have hd1s := HT.out.sz
      have hTk := Take_cut a bb rm gm d1 (sz : Int) wr HT.out.are (by omega) (by omega) (HT.out.gn _) (by rw [HK.out, hd1h, hd1s]; omega) (by omega)
      unfold TcPost at hTk
      rw [hd1h] at hTk
      have HTk := Lib.hid hTk
      have HJ : Hid (d1.height = d.height + j * c) := Lib.hid hd1h
      obtain ⟨p, hp⟩ : ∃ p, p = d.height + j * c := ⟨_, rfl⟩
      have hp2 : p ≤ 4194304 := by omega
      rw [← hp] at HTk HJ
      have HPp := Lib.hid hp
      clear hTk hd1h hmul hp hfit
      go_wp2_with (first
        | (go_at_call 108
           refine HTk.out.mono ?_
           rintro e w3 ⟨rfl, h3, f3⟩
           have HT3 := Lib.hid (HT.out.next HK.out (by rw [HJ.out]; exact h3) f3)
           have HO3 : Hid (w3.ownsRow w.heap.size 3 1 (.slice A j cp) j (TR d.height c j)) := Lib.hid (own_fr HO.out f3 (fun g cur hg _ => HT.out.are.row_ne hg))
           have HB3 : Hid (w.heap.size ≤ w3.heap.size) := Lib.hid HT3.out.fr.size
           clear h3 f3)
        | (at_builtin
           refine wpList_append_own _ rfl (.tmp 56) (.tmp 58) 48 rfl w.heap.size 3 i0 (.int .i64 0) 1 8 Tryz.underlying48 hii hz0 hz1 hz2 rfl (by decide) (.slice A j cp) j (TR d.height c j) rfl (HO3.out.alloc _) ⟨w3.heap.size, 0, none⟩ 1 1 [.int .i64 ((p : Nat) : Int)] rfl rfl (Blk.src (Blk.new w3 3 _)) (by simp [Value.oneCell']) (by unfold maxLen; omega) (by omega) (by have := HB3.out; simp; omega) ?_
           intro v' w4 hown4 hgrow4 _
           obtain ⟨A4, cp4, rfl⟩ := own_slice hown4
           have f4 : Fr (fun q => (Value.slice A j cp).ownBlock = some q) w3 w4 := ((Fr.refl _ w3).alloc _).trans (Fr.grownV hgrow4)
           have hnot : ∀ q, (Value.slice A j cp).ownBlock = some q → ¬ arb a bb rm gm q ∧ w.heap.size ≤ q := fun q hq => by
             rcases HO3.out.2 with ⟨e, _⟩ | ⟨g, cp', cur, e, _, hg, _⟩
             · rw [e] at hq; cases hq
             · have hq2 := hq
               rw [e] at hq2
               injection hq2 with hq2
               subst hq2
               exact ⟨HT3.out.are.row_ne hg, (HO3.out.lt _ hq).1⟩
           have HT4 := Lib.hid (HT3.out.more f4 hnot)
           have HO4 : Hid (w4.ownsRow w.heap.size 3 1 (.slice A4 (j + 1) cp4) (j + 1) (TR d.height c (j + 1))) := Lib.hid (by rw [TR_succ, ← HPp.out]; exact hown4)
           have HH4 := Lib.hid (Height_any HT4.out.are)
           clear hown4 hgrow4 f4 hnot)
        | (go_at_call 70; refine HH4.out.mono ?_; rintro e w' ⟨rfl, rfl⟩))
      go_roundw
      case rel => exact ⟨j + 1, A4, cp4, _, by omega, rfl, HT4, HO4⟩
      case measure => simp [slLen]; omega
    · obtain rfl : j = k := by omega
      go_wp2
      go_ret2
      exact ⟨A, cp, d1, rfl, HO.out, HT.out⟩
end Go.Proofs.YtahbnhhdpcieiaaGreatDoor
