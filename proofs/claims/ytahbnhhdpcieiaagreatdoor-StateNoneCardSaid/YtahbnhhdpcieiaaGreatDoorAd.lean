/-
  arena.Arena.Give.
-/
import Derived.Test.YtahbnhhdpcieiaaGreatDoorAc
namespace Go.Proofs.YtahbnhhdpcieiaaGreatDoor
open Go.RowKit
set_option linter.unusedVariables false
/-- the room of class c that begins at p is given back -/
def Ad.give (d : Ad) (p c : Nat) (v : Value) : Ad :=
  { d with live := d.live - c, ops := d.ops + 1, R := fun i => if i = p then none else d.R i, G := fun i => if i = c then d.G c ++ [p] else d.G i, V := fun i => if i = c then v else d.V i }
theorem give_fr (d : Ad) (p c : Nat) (v : Value) (x : Int) : (d.give p c v).fr x = if x = (p : Int) then none else d.fr x := by
  unfold Ad.fr Ad.give
  by_cases h : 0 ≤ x
  · obtain ⟨k, rfl⟩ := Int.eq_ofNat_of_zero_le h
    rw [if_pos h, if_pos h, Int.toNat_natCast]
    by_cases e : k = p
    · subst e; simp
    · have : ¬ ((k : Int) = (p : Int)) := by omega
      simp only [if_neg e, if_neg this]
  · rw [if_neg h, if_neg h, if_neg (by omega)]
theorem give_fg (d : Ad) (p c : Nat) (v : Value) (x : Int) : (d.give p c v).fg x = if x = (c : Int) then some v else d.fg x := by
  unfold Ad.fg Ad.give
  by_cases h : 0 ≤ x
  · obtain ⟨k, rfl⟩ := Int.eq_ofNat_of_zero_le h
    rw [if_pos h, if_pos h, Int.toNat_natCast]
    by_cases e : k = c
    · subst e; simp
    · have : ¬ ((k : Int) = (c : Int)) := by omega
      simp only [if_neg e, if_neg this]
  · rw [if_neg h, if_neg h, if_neg (by omega)]
/-- what holds the places of a class: a slice, or nil -/
def Ad.v0 (d : Ad) (c : Nat) : Value := (d.fg (c : Int)).getD (.slice none 0 0)
theorem Are.own0 {w : World} {a bb rm gm : Nat} {d : Ad} (h : Are w a bb rm gm d) (c : Nat) : w.ownsRow 0 3 1 (d.v0 c) (d.G c).length ((d.G c).map I64) ∧ (d.G c ≠ [] → d.v0 c = d.V c) ∧ (d.G c = [] → (d.v0 c).ownBlock = none) := by
  unfold Ad.v0
  rw [Ad.fg_nat]
  by_cases e : d.G c = []
  · rw [if_pos e, e]
    exact ⟨World.ownsRow_nil w 0 3 1, fun q => absurd rfl q, fun _ => rfl⟩
  · rw [if_neg e]
    exact ⟨h.own c e, fun _ => rfl, fun q => absurd q e⟩
def gvS (a rm gm : Nat) (d : Ad) (c k : Nat) : Prop := k = a ∨ k = rm ∨ k = gm ∨ (d.v0 c).ownBlock = some k
theorem Are.give {w w' : World} {a bb rm gm : Nat} {d : Ad} {p c : Nat} {v : Value} (h : Are w a bb rm gm d) (hp : d.R p = some c) (hb : Blk w' a 96 (arC bb rm gm (d.give p c v)))
    {n : Nat} (hn : n ≤ d.ops + 1) (hi : IM w' Tryz.prog 3 rm n (d.give p c v).fr) {n' : Nat} (hn' : n' ≤ d.ops + 1) (hi' : IM w' Tryz.prog 3 gm n' (d.give p c v).fg)
    (ho : w'.ownsRow 0 3 1 v ((d.G c).length + 1) ((d.G c ++ [p]).map I64)) (hv : v.ownBlock = (d.v0 c).ownBlock ∨ ∃ k, v.ownBlock = some k ∧ w.heap.size ≤ k) (hvs : ∃ k, v.ownBlock = some k)
    (hf : Fr (gvS a rm gm d c) w w') : Are w' a bb rm gm (d.give p c v) := by
  have h0 := h.own0 c
  have hl1 := h.liv1
  have hl2 := h.liv2
  have hr := h.rin p c hp
  have hbb : ¬ gvS a rm gm d c bb := by
    rintro (q | q | q | q)
    · exact h.ab q
    · exact h.rb q.symm
    · exact h.gb q.symm
    · by_cases e : d.G c = []
      · rw [h0.2.2 e] at q; cases q
      · rw [h0.2.1 e] at q; exact (h.own_ne e).2.1 q
  have hoth : ∀ i, i ≠ c → d.G i ≠ [] → ∀ k, (d.V i).ownBlock = some k → ¬ gvS a rm gm d c k := by
    intro i hic hi2 k hk
    rintro (q | q | q | q)
    · exact (h.own_ne hi2).1 (by rw [hk, q])
    · exact (h.own_ne hi2).2.2.1 (by rw [hk, q])
    · exact (h.own_ne hi2).2.2.2 (by rw [hk, q])
    · by_cases e : d.G c = []
      · rw [h0.2.2 e] at q; cases q
      · rw [h0.2.1 e] at q
        exact hic (h.apart i c hi2 e (by rw [hk, q]))
  have hdiff : ∀ i, i ≠ c → d.G i ≠ [] → (d.V i).ownBlock ≠ v.ownBlock := by
    intro i hic hi2 q
    obtain ⟨k, hk⟩ := hvs
    rcases hv with e | ⟨k', e, hk'⟩
    · exact hoth i hic hi2 k (by rw [q, hk]) (.inr (.inr (.inr (by rw [← e, hk]))))
    · have : k' = k := by rw [e] at hk; injection hk
      subst this
      have := h.mlt (k := k') (.inr (.inr (.inr (.inr ⟨i, hi2, by rw [q, e]⟩))))
      omega
  refine ⟨hb, h.byt.fr hf hbb, h.len, h.all, h.lim, ⟨n, hn, hi⟩, ⟨n', hn', hi'⟩, ?_, ?_, ?_, ?_, ?_, h.hsz, ?_, ?_, h.rg⟩
  · intro i hi2
    by_cases e : i = c
    · subst e
      simp only [Ad.give, if_pos, List.length_append, List.length_cons, List.length_nil]
      exact ho
    · simp only [Ad.give, if_neg e] at hi2 ⊢
      exact ownsRow_same (h.own i hi2) (fun k hk => hf.block k (h.mlt (.inr (.inr (.inr (.inr ⟨i, hi2, hk⟩))))) (hoth i e hi2 k hk))
  · intro i j hi2 hj2 hij
    by_cases e : i = c <;> by_cases e' : j = c
    · omega
    · simp only [Ad.give, if_pos e, if_neg e'] at hj2 hij
      exact absurd hij.symm (hdiff j e' hj2)
    · simp only [Ad.give, if_pos e', if_neg e] at hi2 hij
      exact absurd hij (hdiff i e hi2)
    · simp only [Ad.give, if_neg e', if_neg e] at hi2 hj2 hij
      exact h.apart i j hi2 hj2 hij
  · intro i
    have := h.few i
    by_cases e : i = c
    · subst e; simp [Ad.give]; omega
    · simp only [Ad.give, if_neg e]; omega
  · intro q c' hq
    by_cases e : q = p
    · simp [Ad.give, e] at hq
    · simp only [Ad.give, if_neg e] at hq
      exact h.rin q c' hq
  · intro i q hq
    by_cases e : i = c
    · subst e
      simp only [Ad.give, if_pos, List.mem_append, List.mem_singleton] at hq
      rcases hq with hq | rfl
      · exact h.gin i q hq
      · exact hr.1
    · simp only [Ad.give, if_neg e] at hq
      exact h.gin i q hq
  · show -(((d.ops + 1 : Nat) : Int) * 4194304) ≤ d.live - c
    push_cast
    omega
  · show d.live - c ≤ ((d.ops + 1 : Nat) : Int) * 4194304
    push_cast
    omega
theorem Fr.grownV {w w' : World} {o : Option Nat} (h : w.grownBy w' o) : Fr (fun k => o = some k) w w' := ⟨h.os, h.tape, h.output, h.size, fun i hi hs => h.block i hi (fun e => hs e.symm)⟩
/-- append in a region that draws its order, by an equation on its run -/
theorem step_append_run {P : Program} {ops : Array Oper} {o : Oper} {a : Act} {w : World} {K : Act → World → Prop} {Q : Exit → Act → World → Prop} {E : Prop} (hgd : o.guard = none) (s x : Operand) (T : TypeId)
    (ho : o.op = .call { callee := .builtin .append, args := #[s, x], argTypes := #[T, T] }) (v xv v' : Value) (w' : World) (hs : a.eval s = v) (hx : a.eval x = xv)
    (hrun : Hid (∀ ty, (Builtin.append_ #[T, T] ty #[v, xv]).run P w = .ok v' w')) (h : K (a.put o.dst v') w') :
    if Region.wanted o (yielded ops a.tmps) = true then Oper.wp P o a w K Q else E := by
  have hw : Region.wanted o (yielded ops a.tmps) = true := by simp [Region.wanted, hgd]
  rw [if_pos hw]
  unfold Oper.wp
  simp [execOp, ho, resolve, invoke, builtin, hs, hx, hrun.out o.type, Result.andThen]
  exact h
theorem info3 : (Tryz.prog.info? 3).map (fun i => (i.zero, i.size, i.bytes)) = some (some (.int .i64 0), 1, 8) := by kernel_rfl
set_option maxHeartbeats 1000000 in
set_option maxRecDepth 100000 in
theorem Give_no (a bb rm gm : Nat) (d : Ad) (p : Int) (w : World) (h : Are w a bb rm gm d) (hj : (Lit.int .i64 p).wf = true) (hn : (d.fr p).isSome = false) :
    Calls Tryz.prog 59 #[.pointer (some ⟨a, 0, none⟩), .int .i64 p] w fun e w' => e = .returned (.int .i64 2) ∧ w = w' := by
  have c1 : w.cell? ⟨a, 1, none⟩ = some (.map (some rm)) := h.blk.cell 1
  obtain ⟨n, _, hi⟩ := h.rooms
  have HI := Lib.hid hi
  have HJ := Lib.hid hj
  have hE : d.fr p = none := by simpa using hn
  have HE := Lib.hid hE
  clear h hi hj hn hE
  go_enter Tryz.func59, Tryz.ntmps59
  go_wp2_with (at_lookup; refine wpList_lookup_im _ rfl _ _ 93 true rfl 3 3 Tryz.underlying3 Tryz.underlying93 (zero3 _) rm n d.fr rfl HI.out p rfl HJ.out ?_; rw [if_pos rfl, HE.out, Option.getD_none, Option.isSome_none])
  go_ret
  exact ⟨rfl, rfl⟩
def GvPost (a bb rm gm : Nat) (d : Ad) (p c : Nat) (w : World) (e : Ending) (w' : World) : Prop :=
  ∃ v, e = .returned (.int .i64 0) ∧ Are w' a bb rm gm (d.give p c v) ∧ Fr (gvS a rm gm d c) w w' ∧ (v.ownBlock = (d.v0 c).ownBlock ∨ ∃ k, v.ownBlock = some k ∧ w.heap.size ≤ k)
set_option maxHeartbeats 2000000 in
set_option maxRecDepth 100000 in
theorem Give_ok (a bb rm gm : Nat) (d : Ad) (p c : Nat) (w : World) (h : Are w a bb rm gm d) (hp : d.R p = some c) (ho : d.ops < 1000000) :
    Calls Tryz.prog 59 #[.pointer (some ⟨a, 0, none⟩), .int .i64 p] w (GvPost a bb rm gm d p c w) := by
  obtain ⟨i0, hii, hz0, hz1, hz2⟩ := info_parts info3
  have c1 : w.cell? ⟨a, 1, none⟩ = some (.map (some rm)) := h.blk.cell 1
  obtain ⟨n, hn, hi⟩ := h.rooms
  obtain ⟨n', hn', hi'⟩ := h.given
  have hr := h.rin p c hp
  have hsz := h.hsz
  have hlim := h.lim
  have hl1 := h.liv1
  have hl2 := h.liv2
  have hL1 : -4194304000000 ≤ d.live := by omega
  have hL2 : d.live ≤ 4194304000000 := by omega
  have hr1 := hr.1
  have hr2 := hr.2.1
  have hr3 := hr.2.2
  have HI := Lib.hid hi
  have HI' := Lib.hid hi'
  have HJ : Hid ((Lit.int .i64 (p : Int)).wf = true) := Lib.hid (WalkArith.wf_i64 (by omega))
  have HJc : Hid ((Lit.int .i64 (c : Int)).wf = true) := Lib.hid (WalkArith.wf_i64 (by omega))
  have HE : Hid (d.fr (p : Int) = some (I64 c)) := Lib.hid (by rw [Ad.fr_nat, hp]; rfl)
  have H := Lib.hid h
  have HP := Lib.hid hp
  clear h hi hi' hp hr hl1 hl2
  go_enter Tryz.func59, Tryz.ntmps59
  go_wp2_with (first
    | (at_lookup; refine wpList_lookup_im _ rfl _ _ 93 true rfl 3 3 Tryz.underlying3 Tryz.underlying93 (zero3 _) rm n d.fr rfl HI.out (p : Int) rfl HJ.out ?_; rw [if_pos rfl, HE.out, Option.getD_some, Option.isSome_some]; unfold I64)
    | (at_delete
       refine wpList_delete_im _ rfl _ _ 93 3 rfl 3 Tryz.underlying3 Tryz.underlying93 rm n d.fr rfl HI.out (p : Int) rfl HJ.out ?_
       intro w2 him hturn
       have HF2 := Lib.hid (turned_fr hturn)
       have HI2 := Lib.hid him
       clear him hturn))
  have g2 : w2.cell? ⟨a, 2, none⟩ = some (.map (some gm)) := (H.out.blk.fr HF2.out (Ne.symm H.out.ra)).cell 2
  obtain ⟨o, hoo⟩ : ∃ o, o = Obj.cells #[Value.int .i64 (p : Int)] 3 := ⟨_, rfl⟩
  obtain ⟨W, hW⟩ : ∃ W, W = (w2.alloc (Obj.cells #[Value.int .i64 (p : Int)] 3)).drew := ⟨_, rfl⟩
  have fW : Fr (fun _ => False) w2 W := by rw [hW]; exact ((Fr.refl _ w2).alloc _).drew
  have fWw : Fr (· = rm) w W := HF2.out.trans (fW.more (fun _ q => q.elim))
  have i2 : IM w2 Tryz.prog 3 gm n' d.fg := HI'.out.fr HF2.out (fun e => H.out.rg e.symm)
  have iW : IM W Tryz.prog 3 gm n' d.fg := i2.fr fW (fun q => q)
  have gW : W.cell? ⟨a, 2, none⟩ = some (.map (some gm)) := ((H.out.blk.fr fWw (Ne.symm H.out.ra))).cell 2
  obtain ⟨hown0, hv0a, hv0b⟩ := H.out.own0 c
  have hv0ne : ∀ k, (d.v0 c).ownBlock = some k → k ≠ a ∧ k ≠ bb ∧ k ≠ rm ∧ k ≠ gm ∧ k < w.heap.size := by
    intro k hk
    by_cases e : d.G c = []
    · rw [hv0b e] at hk; cases hk
    · rw [hv0a e] at hk
      have := H.out.own_ne e
      refine ⟨fun q => this.1 (by rw [hk, q]), fun q => this.2.1 (by rw [hk, q]), fun q => this.2.2.1 (by rw [hk, q]), fun q => this.2.2.2 (by rw [hk, q]), H.out.mlt (.inr (.inr (.inr (.inr ⟨c, e, hk⟩))))⟩
  have ownW : W.ownsRow 0 3 1 (d.v0 c) (d.G c).length ((d.G c).map I64) := ownsRow_same hown0 (fun k hk => fWw.block k (hv0ne k hk).2.2.2.2 (hv0ne k hk).2.2.1)
  have hl0 : (Instr.lookup 94 (.map (some gm)) (.int .i64 (c : Int)) false).run Tryz.prog w2.drew = .ok (d.v0 c) w2.drew := (i2.drewN 1).look Tryz.underlying3 Tryz.underlying94 (zero48 _) (c : Int) HJc.out false
  have hl1 : (Instr.lookup 94 (.map (some gm)) (.int .i64 (c : Int)) false).run Tryz.prog W = .ok (d.v0 c) W := iW.look Tryz.underlying3 Tryz.underlying94 (zero48 _) (c : Int) HJc.out false
  have hbW : Blk W w2.heap.size 3 #[Value.int .i64 (p : Int)] := by rw [hW]; exact Blk.new w2 3 _
  have hfew := H.out.few c
  obtain ⟨v1, w3, hap, hown3, hgr3, _, hloc⟩ := run_append_own_at (P := Tryz.prog) W 0 48 48 3 i0 (.int .i64 0) 1 8 Tryz.underlying48 hii hz0 hz1 hz2 rfl (by decide) (d.v0 c) (d.G c).length ((d.G c).map I64) ownW ⟨w2.heap.size, 0, none⟩ 1 1 [Value.int .i64 (p : Int)] rfl (Blk.src hbW) (by simp [Value.oneCell']) (by unfold maxLen; omega) (by omega) (Nat.zero_le _)
  have f3 := Fr.grownV hgr3
  have fw3 : Fr (gvS a rm gm d c) w w3 := (fWw.more (fun k q => .inr (.inl q))).trans (f3.more (fun k q => .inr (.inr (.inr q))))
  have i3 : IM w3 Tryz.prog 3 gm n' d.fg := iW.fr f3 (fun q => (hv0ne gm q).2.2.2.1 rfl)
  have g3 : w3.cell? ⟨a, 2, none⟩ = some (.map (some gm)) := (((H.out.blk.fr fWw (Ne.symm H.out.ra))).fr f3 (fun q => (hv0ne a q).1 rfl)).cell 2
  obtain ⟨w4, hup, him4, hturn4⟩ := i3.store Tryz.underlying3 Tryz.underlying94 (by unfold maxLen; omega) (c : Int) HJc.out v1
  have f4 := turned_fr hturn4
  have hb4 : Blk w4 a 96 (arC bb rm gm d) := (((H.out.blk.fr fWw (Ne.symm H.out.ra))).fr f3 (fun q => (hv0ne a q).1 rfl)).fr f4 (Ne.symm H.out.ga)
  have t3 : w4.cell? ⟨a, 3, none⟩ = some (.int .i64 d.live) := hb4.cell 3
  have z3 : w4.frozen? ⟨a, 3, none⟩ = false := hb4.frozen 3
  have hvl : Hid (v1.ownBlock = (d.v0 c).ownBlock ∨ ∃ k, v1.ownBlock = some k ∧ w.heap.size ≤ k) := Lib.hid (by
    rcases hloc with e | e
    · exact .inl e
    · exact .inr ⟨_, e, fWw.size⟩)
  have fin : Hid (Are (w4.setCell ⟨a, 3, none⟩ (.int .i64 (d.live - (c : Int)))) a bb rm gm (d.give p c v1) ∧ Fr (gvS a rm gm d c) w (w4.setCell ⟨a, 3, none⟩ (.int .i64 (d.live - (c : Int))))) := Lib.hid (by
    have hF : Fr (gvS a rm gm d c) w (w4.setCell ⟨a, 3, none⟩ (.int .i64 (d.live - (c : Int)))) := (fw3.trans (f4.more (fun k q => .inr (.inr (.inl q))))).set_ (p := ⟨a, 3, none⟩) (.inl rfl) _
    obtain ⟨gq, capq, curq, eq1, hbq, _⟩ := own_row hown3 (by omega)
    have hv1ne : gq ≠ a ∧ gq ≠ gm ∧ gq < w3.heap.size := ⟨hbq.ne_ (((H.out.blk.fr fWw (Ne.symm H.out.ra))).fr f3 (fun q => (hv0ne a q).1 rfl)) (by decide), (i3.ne_ hbq).symm, hbq.lt⟩
    refine ⟨H.out.give HP.out (hb4.set_ 3 _) (n := if (d.fr (p : Int)).isSome then n - 1 else n) ?_ ?_ (n' := if (d.fg (c : Int)).isSome then n' else n' + 1) ?_ ?_ ?_ hvl.out ⟨gq, by rw [eq1]; rfl⟩ hF, hF⟩
    · split <;> omega
    · have := ((((HI2.out.congr (fun x _ => give_fr d p c v1 x)).fr fW (fun q => q)).fr f3 (fun q => (hv0ne rm q).2.2.1 rfl)).fr f4 H.out.rg).far (p := ⟨a, 3, none⟩) H.out.ra (.int .i64 (d.live - (c : Int)))
      exact this
    · split <;> omega
    · exact (him4.congr (fun x _ => give_fg d p c v1 x)).far (p := ⟨a, 3, none⟩) H.out.ga _
    · have e1 : (d.G c ++ [p]).map I64 = (d.G c).map I64 ++ [Value.int .i64 (p : Int)] := by simp [I64]
      rw [e1]
      refine ownsRow_same hown3 (fun k hk => ?_)
      rw [eq1] at hk
      simp only [Value.ownBlock, Option.some.injEq] at hk
      subst hk
      rw [Below.heap_setCell _ _ _ _ hv1ne.1]
      exact f4.block _ hv1ne.2.2 hv1ne.2.1)
  have HAP : Hid (∀ ty, (Builtin.append_ #[48, 48] ty #[d.v0 c, .slice (some ⟨w2.heap.size, 0, none⟩) 1 1]).run Tryz.prog (w2.alloc (Obj.cells #[Value.int .i64 (p : Int)] 3)).drew = .ok v1 w3) := Lib.hid (fun ty => by rw [← hW]; exact hap)
  rw [hW] at hl1 gW
  clear hap
  clear hW hoo fW fWw i2 iW hown0 hv0a hv0b hv0ne ownW hbW hown3 hgr3 hloc f3 fw3 i3 him4 hturn4 f4 hb4 HI2 HF2
  obtain ⟨v0, hv0⟩ : ∃ v0, v0 = d.v0 c := ⟨_, rfl⟩
  rw [← hv0] at hl0 hl1 HAP
  have HV0 := Lib.hid hv0
  clear hv0
  go_frame
  go_region_law (refine step_append_run rfl (.tmp 35) (.tmp 37) 48 rfl v0 (.slice (some ⟨w2.heap.size, 0, none⟩) 1 1) v1 w3 rfl rfl HAP ?_)
  all_goals
    go_wp2
    go_ret
    exact ⟨v1, rfl, fin.out.1, fin.out.2, hvl.out⟩
end Go.Proofs.YtahbnhhdpcieiaaGreatDoor
