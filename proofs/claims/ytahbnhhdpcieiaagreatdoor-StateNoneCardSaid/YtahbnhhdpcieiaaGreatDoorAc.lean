/-
  arena.Arena.cut, Take.
-/
import Derived.Test.YtahbnhhdpcieiaaGreatDoorAb
namespace Go.Proofs.YtahbnhhdpcieiaaGreatDoor
open Go.RowKit
set_option linter.unusedVariables false
def Ad.cut (d : Ad) (c : Nat) : Ad := { d with height := d.height + c }
def zeroM (mem : List Nat) (p c : Nat) : List Nat := mem.take p ++ (List.replicate c 0 ++ mem.drop (p + c))
/-- a room of class c that begins at p is taken -/
def Ad.take (d : Ad) (p c : Nat) : Ad := { d with live := d.live + c, ops := d.ops + 1, R := fun i => if i = p then some c else d.R i, mem := zeroM d.mem p c }
set_option maxHeartbeats 1000000 in
set_option maxRecDepth 100000 in
theorem cut_no (a bb rm gm : Nat) (d : Ad) (c : Nat) (w : World) (h : Are w a bb rm gm d) (hc : c ≤ 4194304) (hh : d.sz < d.height + c) :
    Calls Tryz.prog 134 #[.pointer (some ⟨a, 0, none⟩), .int .i64 c] w fun e w' => e = .returned (.tuple #[.int .i64 0, .int .i64 8]) ∧ ∃ k, w.drewN k = w' := by
  have c0 : w.cell? ⟨a, 0, none⟩ = some (.slice (some ⟨bb, 0, none⟩) d.sz d.sz) := h.blk.cell 0
  have c4 : w.cell? ⟨a, 4, none⟩ = some (.int .i64 d.height) := h.blk.cell 4
  have h1 := h.hsz
  have h2 := h.lim
  clear h
  go_enter Tryz.func134, Tryz.ntmps134
  go_wp2
  go_quiet (fail)
  go_wp2
  go_ret2
  exact ⟨rfl, _, rfl⟩
theorem Are.cut {w w' : World} {a bb rm gm : Nat} {d : Ad} {c : Nat} (h : Are w a bb rm gm d) (hh : d.height + c ≤ d.sz) (hb : Blk w' a 96 (arC bb rm gm (d.cut c))) (hf : Fr (· = a) w w') : Are w' a bb rm gm (d.cut c) := by
  obtain ⟨n, hn, hi⟩ := h.rooms
  obtain ⟨n', hn', hi'⟩ := h.given
  refine ⟨hb, h.byt.fr hf h.ab, h.len, h.all, h.lim, ⟨n, hn, hi.fr hf h.ra⟩, ⟨n', hn', hi'.fr hf h.ga⟩, ?_, h.apart, h.few, ?_, ?_, hh, h.liv1, h.liv2, h.rg⟩
  · intro i hi2
    exact ownsRow_same (h.own i hi2) (fun k hk => hf.block k (h.mlt (.inr (.inr (.inr (.inr ⟨i, hi2, hk⟩))))) (fun q => (h.own_ne hi2).1 (hk.trans (congrArg some q))))
  · intro p c' hp
    have := h.rin p c' hp
    exact ⟨by simp only [Ad.cut]; omega, this.2⟩
  · intro c' p hp
    have := h.gin c' p hp
    simp only [Ad.cut]
    omega
set_option maxHeartbeats 1000000 in
set_option maxRecDepth 100000 in
theorem cut_yes (a bb rm gm : Nat) (d : Ad) (c : Nat) (w : World) (h : Are w a bb rm gm d) (hc : c ≤ 4194304) (hh : d.height + c ≤ d.sz) :
    Calls Tryz.prog 134 #[.pointer (some ⟨a, 0, none⟩), .int .i64 c] w fun e w' => e = .returned (.tuple #[.int .i64 d.height, .int .i64 0]) ∧ Are w' a bb rm gm (d.cut c) ∧ Fr (· = a) w w' := by
  have c0 : w.cell? ⟨a, 0, none⟩ = some (.slice (some ⟨bb, 0, none⟩) d.sz d.sz) := h.blk.cell 0
  have c4 : w.cell? ⟨a, 4, none⟩ = some (.int .i64 d.height) := h.blk.cell 4
  have z4 := h.blk.frozen 4
  have h1 := h.hsz
  have h2 := h.lim
  have H := Lib.hid h
  clear h
  go_enter Tryz.func134, Tryz.ntmps134
  go_wp2
  go_quiet (fail)
  go_wp2
  go_ret2
  have hf : Fr (· = a) w ((w.drewN nq).setCell ⟨a, 4, none⟩ (.int .i64 ((d.height : Int) + (c : Int)))) := ((Fr.refl (· = a) w).drewN nq).set_ (p := ⟨a, 4, none⟩) rfl _
  refine ⟨rfl, Are.cut H.out hh ?_ hf, hf⟩
  exact ((H.out.drewN nq).blk.set_ 4 _)
theorem zeroM_len {mem : List Nat} {p c : Nat} (h : p + c ≤ mem.length) : (zeroM mem p c).length = mem.length := by
  unfold zeroM
  simp
  omega
theorem zeroM_all {mem : List Nat} {p c : Nat} (h : ∀ x ∈ mem, x < 256) : ∀ x ∈ zeroM mem p c, x < 256 := by
  intro x hx
  unfold zeroM at hx
  rw [List.mem_append, List.mem_append] at hx
  rcases hx with hx | hx | hx
  · exact h x (List.mem_of_mem_take hx)
  · have := List.eq_of_mem_replicate hx
    omega
  · exact h x (List.mem_of_mem_drop hx)
theorem zeroM_map (mem : List Nat) (p c : Nat) : (zeroM mem p c).map U8 = splice (mem.map U8) p (List.replicate c (.int .u8 0)) := by
  unfold zeroM splice
  simp [U8, List.map_take, List.map_drop]
theorem take_fr (d : Ad) (p c : Nat) (x : Int) : (d.take p c).fr x = if x = (p : Int) then some (I64 c) else d.fr x := by
  unfold Ad.fr Ad.take
  by_cases h : 0 ≤ x
  · obtain ⟨k, rfl⟩ := Int.eq_ofNat_of_zero_le h
    rw [if_pos h, if_pos h, Int.toNat_natCast]
    by_cases e : k = p
    · subst e; simp
    · have : ¬ ((k : Int) = (p : Int)) := by omega
      simp only [if_neg e, if_neg this]
  · rw [if_neg h, if_neg h, if_neg (by omega)]
def arb (a bb rm gm : Nat) (k : Nat) : Prop := k = a ∨ k = bb ∨ k = rm ∨ k = gm
theorem Are.take {w w' : World} {a bb rm gm : Nat} {d : Ad} {p c : Nat} (h : Are w a bb rm gm d) (hp : p + c ≤ d.height) (h16 : 16 ≤ c) (hc : c ≤ 4194304) (hb : Blk w' a 96 (arC bb rm gm (d.take p c)))
    (hm : Blk w' bb 5 ((zeroM d.mem p c).map U8).toArray) {n : Nat} (hn : n ≤ d.ops + 1) (hi : IM w' Tryz.prog 3 rm n (d.take p c).fr) (hf : Fr (fun k => k = a ∨ k = bb ∨ k = rm) w w') : Are w' a bb rm gm (d.take p c) := by
  obtain ⟨n', hn', hi'⟩ := h.given
  have hsz := h.hsz
  have hlen := h.len
  have hl1 := h.liv1
  have hl2 := h.liv2
  refine ⟨hb, hm, by rw [show (d.take p c).mem = zeroM d.mem p c from rfl, zeroM_len (by omega)]; exact h.len, zeroM_all h.all, h.lim, ⟨n, hn, hi⟩, ⟨n', Nat.le_succ_of_le hn', hi'.fr hf ?_⟩, ?_, h.apart, fun i => Nat.le_succ_of_le (h.few i), ?_, h.gin, h.hsz, ?_, ?_, h.rg⟩
  · rintro (q | q | q)
    · exact h.ga q
    · exact h.gb q
    · exact h.rg q.symm
  · intro i hi2
    refine ownsRow_same (h.own i hi2) (fun k hk => hf.block k (h.mlt (.inr (.inr (.inr (.inr ⟨i, hi2, hk⟩))))) ?_)
    rintro (q | q | q)
    · exact (h.own_ne hi2).1 (hk.trans (congrArg some q))
    · exact (h.own_ne hi2).2.1 (hk.trans (congrArg some q))
    · exact (h.own_ne hi2).2.2.1 (hk.trans (congrArg some q))
  · intro q c' hq
    by_cases e : q = p
    · simp only [Ad.take, if_pos e, Option.some.injEq] at hq
      subst hq
      subst e
      exact ⟨hp, h16, hc⟩
    · simp only [Ad.take, if_neg e] at hq
      exact h.rin q c' hq
  · show -(((d.ops + 1 : Nat) : Int) * 4194304) ≤ d.live + c
    push_cast
    omega
  · show d.live + c ≤ ((d.ops + 1 : Nat) : Int) * 4194304
    push_cast
    omega
set_option maxRecDepth 100000 in
theorem Take_arg (a : Nat) (n : Int) (w : World) (h : n < 0 ∨ (0 ≤ n ∧ 4194304 < n)) :
    Calls Tryz.prog 108 #[.pointer (some ⟨a, 0, none⟩), .int .i64 n] w fun e w' => e = .returned (.tuple #[.int .i64 0, .int .i64 1]) ∧ w = w' := by
  rcases h with h | ⟨h, h'⟩
  all_goals
    go_enter Tryz.func108, Tryz.ntmps108
    go_wp2
    go_ret2
    exact ⟨rfl, rfl⟩
set_option maxHeartbeats 1000000 in
set_option maxRecDepth 100000 in
theorem Take_full (a bb rm gm : Nat) (d : Ad) (n : Int) (w : World) (h : Are w a bb rm gm d) (h0 : 0 ≤ n) (h1 : n ≤ 4194304) (hG : d.G (cl n) = []) (hh : d.sz < d.height + cl n) :
    Calls Tryz.prog 108 #[.pointer (some ⟨a, 0, none⟩), .int .i64 n] w fun e w' => e = .returned (.tuple #[.int .i64 0, .int .i64 8]) ∧ ∃ k, w.drewN k = w' := by
  have hC := Lib.hid (Class_any n w h1)
  have hA := Lib.hid (again_no a bb rm gm d (cl n) w h (cl_hi n) hG)
  have hU := Lib.hid (cut_no a bb rm gm d (cl n) w h (cl_hi n) hh)
  clear h hG hh
  go_enter Tryz.func108, Tryz.ntmps108
  go_wp2_with (first
    | (go_at_call 24; refine hC.out.mono ?_; rintro e w' ⟨rfl, rfl⟩)
    | (go_at_call 133; refine hA.out.mono ?_; rintro e w' ⟨rfl, rfl⟩)
    | (go_at_call 134; refine hU.out.mono ?_; rintro e w' ⟨rfl, k, rfl⟩))
  go_ret2
  exact ⟨rfl, _, rfl⟩
/-- clear of a part of a row of bytes, as an equation on its run -/
theorem clear_run (w : World) (g off n c : Nat) (cur : List Value) (t : TypeId) (hg : Blk w g t cur.toArray) (hn : 0 < n) (hfit : off + n ≤ cur.length) :
    ∃ w', (Builtin.clear_ #[83] 0 #[.slice (some ⟨g, off, none⟩) n c]).run Tryz.prog w = .ok (.tuple #[]) w' ∧ Hid (Blk w' g t (splice cur off (List.replicate n (.int .u8 0))).toArray) ∧ Fr (· = g) w w' := by
  refine ⟨_, Lib.run_clear_slice (P := Tryz.prog) w 83 5 0 (.int .u8 0) Tryz.underlying83 zero5 rfl rfl g off n c hn (fun j hj => by rw [hg.cell]; simp; omega) (fun j _ => hg.frozen _), Lib.hid ?_, fr_setCells _ _ w⟩
  have := blk_setCells (List.replicate n (Value.int .u8 0)) off w cur hg
  rw [setMany'_splice _ _ _ (by simpa using hfit)] at this
  exact this
def TgPost (a bb rm gm : Nat) (d : Ad) (n : Int) (xs : List Nat) (p : Nat) (w : World) (e : Ending) (w' : World) : Prop :=
  ∃ v, e = .returned (.tuple #[.int .i64 p, .int .i64 0]) ∧ Are w' a bb rm gm ((d.pop (cl n) xs v).take p (cl n)) ∧ Fr (arb a bb rm gm) w w' ∧ v.ownBlock = (d.V (cl n)).ownBlock
set_option maxHeartbeats 2000000 in
set_option maxRecDepth 100000 in
theorem Take_given (a bb rm gm : Nat) (d : Ad) (n : Int) (xs : List Nat) (p : Nat) (w : World) (h : Are w a bb rm gm d) (h0 : 0 ≤ n) (h1 : n ≤ 4194304) (hG : d.G (cl n) = xs ++ [p]) (ho : d.ops < 1000000) :
    Calls Tryz.prog 108 #[.pointer (some ⟨a, 0, none⟩), .int .i64 n] w (TgPost a bb rm gm d n xs p w) := by
  have hC := Lib.hid (Class_any n w h1)
  have hA := Lib.hid (again_yes a bb rm gm d (cl n) xs p w h (cl_hi n) hG ho)
  have hpc : p + cl n ≤ d.height := h.gin (cl n) p (by rw [hG]; simp)
  have hsz := h.hsz
  have hlim := h.lim
  have hl1 := h.liv1
  have hl2 := h.liv2
  have hc1 := cl_lo n
  have hc2 := cl_hi n
  have hL1 : -4194304000000 ≤ d.live := by omega
  have hL2 : d.live ≤ 4194304000000 := by omega
  have HH := Lib.hid hpc
  have HJ : Hid ((Lit.int .i64 (p : Int)).wf = true) := Lib.hid (WalkArith.wf_i64 (by omega))
  obtain ⟨cc, hcc⟩ : ∃ cc, cc = cl n := ⟨_, rfl⟩
  obtain ⟨cur, hcur⟩ : ∃ cur, cur = d.mem.map U8 := ⟨_, rfl⟩
  have HC := Lib.hid hcur
  have HCl : Hid (cur.length = d.sz) := Lib.hid (by rw [hcur, List.length_map]; exact h.len)
  clear h hG hl1 hl2 hcur hcc
  go_enter Tryz.func108, Tryz.ntmps108
  go_wp2_with (first
    | (go_at_call 24; refine hC.out.mono ?_; rintro e w' ⟨rfl, rfl⟩)
    | (go_at_call 133
       refine hA.out.mono ?_
       rintro e w1 ⟨v, rfl, h1, hf1, hvo⟩
       have HVO := Lib.hid hvo
       have H1 := Lib.hid h1
       have HF1 := Lib.hid hf1
       obtain ⟨n1, hn1, hi1⟩ := h1.rooms
       have HI1 := Lib.hid hi1
       have HN1 := Lib.hid hn1
       have hn1b : n1 < 2000000 := by simp only [Ad.pop] at hn1; omega
       have t1 : w1.cell? ⟨a, 1, none⟩ = some (.map (some rm)) := H1.out.blk.cell 1
       clear h1 hf1 hi1 hn1 hvo)
    | (at_mapUpdate
       refine wpList_update_im _ rfl _ _ _ 93 rfl 3 3 Tryz.underlying3 Tryz.underlying93 rm n1 (d.pop (cl n) xs v).fr rfl HI1.out (by unfold maxLen; omega) (p : Int) (I64 (cl n)) rfl rfl HJ.out ?_
       intro w2 him hturn
       have hf2 := turned_fr hturn
       have HB2 : Hid (Blk w2 a 96 (arC bb rm gm (d.pop (cl n) xs v))) := Lib.hid (H1.out.blk.fr hf2 (Ne.symm H1.out.ra))
       have HI2 : Hid (IM w2 Tryz.prog 3 rm (if ((d.pop (cl n) xs v).fr (p : Int)).isSome then n1 else n1 + 1) ((d.pop (cl n) xs v).take p (cl n)).fr) := Lib.hid (him.congr (fun x _ => take_fr (d.pop (cl n) xs v) p (cl n) x))
       have HF2 := Lib.hid hf2
       have t3 : w2.cell? ⟨a, 3, none⟩ = some (.int .i64 d.live) := HB2.out.cell 3
       have z3 := HB2.out.frozen 3
       have HB3 : Hid (Blk (w2.setCell ⟨a, 3, none⟩ (.int .i64 (d.live + ((cl n) : Nat)))) a 96 (arC bb rm gm ((d.pop (cl n) xs v).take p (cl n)))) := Lib.hid (HB2.out.set_ 3 _)
       have HM3 : Hid (Blk (w2.setCell ⟨a, 3, none⟩ (.int .i64 (d.live + ((cl n) : Nat)))) bb 5 cur.toArray) := Lib.hid (by
         rw [HC.out]
         exact (H1.out.byt.fr hf2 (Ne.symm H1.out.rb)).far (p := ⟨a, 3, none⟩) H1.out.ab _)
       have t0 : (w2.setCell ⟨a, 3, none⟩ (.int .i64 (d.live + ((cl n) : Nat)))).cell? ⟨a, 0, none⟩ = some (.slice (some ⟨bb, 0, none⟩) d.sz d.sz) := HB3.out.cell 0
       obtain ⟨w4, hcl, hg4, hf4⟩ := clear_run _ bb p (cl n) (d.sz - p) cur 5 HM3.out (by omega) (by rw [HCl.out]; omega)
       have HF4 := Lib.hid hf4
       clear him hturn hf2 hf4))
  go_ret2
  have hm4 : Blk w4 bb 5 ((zeroM (d.pop (cl n) xs v).mem p (cl n)).map U8).toArray := by
    have := hg4.out
    rw [HC.out, ← zeroM_map] at this
    exact this
  have hF : Fr (fun k => k = a ∨ k = bb ∨ k = rm) w1 w4 := by
    refine Fr.trans (Fr.set_ (HF2.out.more (fun k hk => .inr (.inr hk))) (p := ⟨a, 3, none⟩) (.inl rfl) _) (HF4.out.more (fun k hk => .inr (.inl hk)))
  have hA : Are w4 a bb rm gm ((d.pop (cl n) xs v).take p (cl n)) := by
    refine H1.out.take HH.out (cl_lo n) (cl_hi n) (HB3.out.fr HF4.out (Ne.symm H1.out.ab)) hm4 (n := if ((d.pop (cl n) xs v).fr (p : Int)).isSome then n1 else n1 + 1) ?_ ((HI2.out.far (p := ⟨a, 3, none⟩) H1.out.ra _).fr HF4.out H1.out.rb) hF
    have := HN1.out
    split <;> omega
  refine ⟨v, rfl, hA, (HF1.out.more (fun k hk => .inr (.inr (.inr hk)))).trans (hF.more (fun k hk => ?_)), HVO.out⟩
  rcases hk with q | q | q
  · exact .inl q
  · exact .inr (.inl q)
  · exact .inr (.inr (.inl q))
def TcPost (a bb rm gm : Nat) (d : Ad) (n : Int) (w : World) (e : Ending) (w' : World) : Prop :=
  e = .returned (.tuple #[.int .i64 d.height, .int .i64 0]) ∧ Are w' a bb rm gm ((d.cut (cl n)).take d.height (cl n)) ∧ Fr (arb a bb rm gm) w w'
set_option maxHeartbeats 2000000 in
set_option maxRecDepth 100000 in
theorem Take_cut (a bb rm gm : Nat) (d : Ad) (n : Int) (w : World) (h : Are w a bb rm gm d) (h0 : 0 ≤ n) (h1 : n ≤ 4194304) (hG : d.G (cl n) = []) (hh : d.height + cl n ≤ d.sz) (ho : d.ops < 1000000) :
    Calls Tryz.prog 108 #[.pointer (some ⟨a, 0, none⟩), .int .i64 n] w (TcPost a bb rm gm d n w) := by
  have hC := Lib.hid (Class_any n w h1)
  have hA := Lib.hid (again_no a bb rm gm d (cl n) w h (cl_hi n) hG)
  have hU := Lib.hid (cut_yes a bb rm gm d (cl n) w h (cl_hi n) hh)
  have hsz := h.hsz
  have hlim := h.lim
  have hl1 := h.liv1
  have hl2 := h.liv2
  have hc1 := cl_lo n
  have hc2 := cl_hi n
  have hL1 : -4194304000000 ≤ d.live := by omega
  have hL2 : d.live ≤ 4194304000000 := by omega
  have HH : Hid (d.height + cl n ≤ (d.cut (cl n)).height) := Lib.hid (Nat.le_refl _)
  have HJ : Hid ((Lit.int .i64 (d.height : Int)).wf = true) := Lib.hid (WalkArith.wf_i64 (by omega))
  obtain ⟨cur, hcur⟩ : ∃ cur, cur = d.mem.map U8 := ⟨_, rfl⟩
  have HC := Lib.hid hcur
  have HCl : Hid (cur.length = d.sz) := Lib.hid (by rw [hcur, List.length_map]; exact h.len)
  clear h hG hl1 hl2 hcur
  go_enter Tryz.func108, Tryz.ntmps108
  go_wp2_with (first
    | (go_at_call 24; refine hC.out.mono ?_; rintro e w' ⟨rfl, rfl⟩)
    | (go_at_call 133; refine hA.out.mono ?_; rintro e w' ⟨rfl, rfl⟩)
    | (go_at_call 134
       refine hU.out.mono ?_
       rintro e w1 ⟨rfl, h1, hf1⟩
       have H1 := Lib.hid h1
       have HF1 := Lib.hid hf1
       obtain ⟨n1, hn1, hi1⟩ := h1.rooms
       have HI1 := Lib.hid hi1
       have HN1 := Lib.hid hn1
       have hn1b : n1 < 2000000 := by simp only [Ad.cut] at hn1; omega
       have t1 : w1.cell? ⟨a, 1, none⟩ = some (.map (some rm)) := H1.out.blk.cell 1
       clear h1 hf1 hi1 hn1)
    | (at_mapUpdate
       refine wpList_update_im _ rfl _ _ _ 93 rfl 3 3 Tryz.underlying3 Tryz.underlying93 rm n1 (d.cut (cl n)).fr rfl HI1.out (by unfold maxLen; omega) (d.height : Int) (I64 (cl n)) rfl rfl HJ.out ?_
       intro w2 him hturn
       have hf2 := turned_fr hturn
       have HB2 : Hid (Blk w2 a 96 (arC bb rm gm (d.cut (cl n)))) := Lib.hid (H1.out.blk.fr hf2 (Ne.symm H1.out.ra))
       have HI2 : Hid (IM w2 Tryz.prog 3 rm (if ((d.cut (cl n)).fr (d.height : Int)).isSome then n1 else n1 + 1) ((d.cut (cl n)).take d.height (cl n)).fr) := Lib.hid (him.congr (fun x _ => take_fr (d.cut (cl n)) d.height (cl n) x))
       have HF2 := Lib.hid hf2
       have t3 : w2.cell? ⟨a, 3, none⟩ = some (.int .i64 d.live) := HB2.out.cell 3
       have z3 := HB2.out.frozen 3
       have HB3 : Hid (Blk (w2.setCell ⟨a, 3, none⟩ (.int .i64 (d.live + ((cl n) : Nat)))) a 96 (arC bb rm gm ((d.cut (cl n)).take d.height (cl n)))) := Lib.hid (HB2.out.set_ 3 _)
       have HM3 : Hid (Blk (w2.setCell ⟨a, 3, none⟩ (.int .i64 (d.live + ((cl n) : Nat)))) bb 5 cur.toArray) := Lib.hid (by
         rw [HC.out]
         exact (H1.out.byt.fr hf2 (Ne.symm H1.out.rb)).far (p := ⟨a, 3, none⟩) H1.out.ab _)
       have t0 : (w2.setCell ⟨a, 3, none⟩ (.int .i64 (d.live + ((cl n) : Nat)))).cell? ⟨a, 0, none⟩ = some (.slice (some ⟨bb, 0, none⟩) d.sz d.sz) := HB3.out.cell 0
       obtain ⟨w4, hcl, hg4, hf4⟩ := clear_run _ bb d.height (cl n) (d.sz - d.height) cur 5 HM3.out (by omega) (by rw [HCl.out]; omega)
       have HF4 := Lib.hid hf4
       clear him hturn hf2 hf4))
  go_ret2
  have hm4 : Blk w4 bb 5 ((zeroM (d.cut (cl n)).mem d.height (cl n)).map U8).toArray := by
    have := hg4.out
    rw [HC.out, ← zeroM_map] at this
    exact this
  have hF : Fr (fun k => k = a ∨ k = bb ∨ k = rm) w1 w4 := by
    refine Fr.trans (Fr.set_ (HF2.out.more (fun k hk => .inr (.inr hk))) (p := ⟨a, 3, none⟩) (.inl rfl) _) (HF4.out.more (fun k hk => .inr (.inl hk)))
  have hA : Are w4 a bb rm gm ((d.cut (cl n)).take d.height (cl n)) := by
    refine H1.out.take HH.out (cl_lo n) (cl_hi n) (HB3.out.fr HF4.out (Ne.symm H1.out.ab)) hm4 (n := if ((d.cut (cl n)).fr (d.height : Int)).isSome then n1 else n1 + 1) ?_ ((HI2.out.far (p := ⟨a, 3, none⟩) H1.out.ra _).fr HF4.out H1.out.rb) hF
    have := HN1.out
    split <;> omega
  refine ⟨rfl, hA, (HF1.out.more (fun k hk => .inl hk)).trans (hF.more (fun k hk => ?_))⟩
  rcases hk with q | q | q
  · exact .inl q
  · exact .inr (.inl q)
  · exact .inr (.inr (.inl q))
end Go.Proofs.YtahbnhhdpcieiaaGreatDoor
