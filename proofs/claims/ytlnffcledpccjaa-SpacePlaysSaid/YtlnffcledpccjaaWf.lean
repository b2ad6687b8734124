/-
  pager.New, where that many rooms can be cut off.
-/
import Derived.Test.YtlnffcledpccjaaWe
namespace Go.Proofs.Ytlnffcledpccjaa
open Go.ChangeShapes Go.WideShapes Go.ChangeAt Go.RowKit
set_option linter.unusedVariables false
set_option linter.unusedSimpArgs false
theorem info82 : (Try.prog.info? 106).map (fun i => (i.zero, i.size, i.bytes)) = some (some (.agg #[.int .i64 0, .int .i64 0, .int .i64 0, .bool false, .bool false, .bool false]), 6, 32) := by kernel_rfl
def FC1 (p : Nat) : List Value := [.int .i64 (p : Nat), .int .i64 0, .int .i64 0, .bool false, .bool false, .bool false]
theorem FC1_one (p : Nat) : ∀ v ∈ FC1 p, v.oneCell' = true := by
  intro v hv
  simp only [FC1, List.mem_cons, List.not_mem_nil, or_false] at hv
  rcases hv with rfl | rfl | rfl | rfl | rfl | rfl <;> rfl
def FC (h c k : Nat) : List Value := (List.range k).flatMap fun i => FC1 (h + i * c)
theorem FC_succ (h c k : Nat) : FC h c (k + 1) = FC h c k ++ FC1 (h + k * c) := by simp [FC, List.range_succ]
theorem FC_len (h c : Nat) : ∀ k, (FC h c k).length = k * 6
  | 0 => rfl
  | k + 1 => by rw [FC_succ, List.length_append, FC_len h c k]; simp [FC1]; omega
theorem FC_get (h c : Nat) : ∀ (k i q : Nat) (v : Value), i < k → (FC1 (h + i * c))[q]? = some v → (FC h c k)[i * 6 + q]? = some v
  | k + 1, i, q, v, hi, hv => by
    have hq : q < 6 := by
      have := (List.getElem?_eq_some_iff.1 hv).1
      simpa [FC1] using this
    rw [FC_succ]
    by_cases e : i = k
    · subst e
      rw [List.getElem?_append_right (by rw [FC_len]; omega), FC_len, show i * 6 + q - i * 6 = q from by omega]
      exact hv
    · rw [List.getElem?_append_left (by rw [FC_len]; omega)]
      exact FC_get h c k i q v (by omega) hv
def nwd (k h c : Nat) (sd : Sd) : Pd := { n := k, room := fun i => h + i * c, pg := fun _ => (0, 0), tk := fun _ => false, th := fun _ => false, ch := fun _ => false, hand := 0, st := fun _ => none, blk := fun _ => none, sd := sd }
theorem nwd_pi {k h c : Nat} {sd : Sd} {mem : List Nat} (hs : sd.size ≤ c) (hm : h + k * c ≤ mem.length) : PI (nwd k h c sd) mem (fun _ => zs sd.size) [] (fun _ => False) := by
  have hmul : ∀ i, i < k → i * c + c ≤ k * c := fun i hi => by
    have := Nat.mul_le_mul_right c (show i + 1 ≤ k from hi)
    rw [Nat.succ_mul] at this
    exact this
  refine ⟨fun i hi => ?_, fun i j hi hj hne => ?_, fun x i => ?_, fun i hi => ?_, fun x => ?_, fun i hi ht => ?_, fun x id hb => ?_, fun x y id hb => ?_, fun x id _ _ hb => ?_, fun x _ _ _ => rfl, fun i hi ht => ?_, fun x hx => ?_, fun i hi ht => ?_, fun i hi ht => rfl⟩
  · have := hmul i hi
    show h + i * c + sd.size ≤ mem.length
    omega
  · show h + i * c + sd.size ≤ h + j * c ∨ h + j * c + sd.size ≤ h + i * c
    rcases Nat.lt_or_gt_of_ne hne with q | q
    · have := Nat.mul_le_mul_right c (show i + 1 ≤ j from q)
      rw [Nat.succ_mul] at this
      left; omega
    · have := Nat.mul_le_mul_right c (show j + 1 ≤ i from q)
      rw [Nat.succ_mul] at this
      right; omega
  · exact ⟨fun q => (by cases q), fun q => (by cases q.2.1)⟩
  · exact ⟨Nat.zero_le _, Nat.zero_le _⟩
  · exact ⟨by simp [zs]; rfl, fun y hy => by have := List.eq_of_mem_replicate hy; omega⟩
  · cases ht
  · cases hb
  · cases hb
  · cases hb
  · cases ht
  · exact absurd rfl hx
  · cases ht
def NwPost (a bb rm gm s m : Nat) (ad : Ad) (sd : Sd) (c k : Nat) (w : World) (e : Ending) (w' : World) : Prop :=
  ∃ (A : Pa) (d' : Ad), A.s = s ∧ A.m = m ∧ A.a = a ∧ e = .returned (.tuple #[.pointer (some ⟨A.p, 0, none⟩), .int .i64 0]) ∧ Lay w' A (nwd k ad.height c sd) ∧ TkI a bb rm gm ad d' c k w w' ∧ w.heap.size ≤ A.p ∧ w.heap.size ≤ A.fb ∧ w.heap.size ≤ A.sm ∧ w.heap.size ≤ A.bm
def npC (a s sm bm : Nat) (v : Value) : Array Value := #[.pointer (some ⟨a, 0, none⟩), .pointer (some ⟨s, 0, none⟩), v, .map (some sm), .map (some bm), .int .i64 0, .int .i64 0]
theorem nw_lay {w : World} {P sm bm a s m k h c : Nat} {sd : Sd} {v : Value} (h1 : 1 ≤ k) (h2 : k ≤ 64) (hb : Blk w P 102 (npC a s sm bm v)) (ho : w.ownsRow 0 106 6 v k (FC h c k)) (hsm : PM w sm 0 (fun _ => none)) (hbm : PM w bm 0 (fun _ => none)) (hs : Sto w s m sd) (hn : sd.n = 0) (hf : sd.fails < 0) (e1 : sm ≠ bm) (e2 : sm ≠ m) (e3 : bm ≠ m) :
    ∃ fb cap, v = .slice (some ⟨fb, 0, none⟩) k cap ∧ Lay w ⟨P, fb, cap, sm, bm, s, m, a⟩ (nwd k h c sd) := by
  rcases ho.2 with ⟨_, h0⟩ | ⟨g, cap, cur, rfl, _, hg, h3, h4, h5, h6⟩
  · omega
  refine ⟨g, cap, rfl, hb, ⟨cur, hg, fun i hi q u hu => ?_⟩, ⟨0, Nat.zero_le _, hsm⟩, by show PM w bm sd.n _; rw [hn]; exact hbm, hs, e1, e2, e3, h1, h2, h3, h4, h1, hf⟩
  have := FC_get h c k i q u hi (by simpa [frC, nwd, FC1, I64] using hu)
  rw [← h6] at this
  have hq : i * 6 + q < k * 6 := by
    have h7 := (List.getElem?_eq_some_iff.1 this).1
    rw [List.length_take] at h7
    omega
  rw [List.getElem?_take_of_lt hq] at this
  simpa using this
/-- the loop of New: so many frames are there -/
structure NwI (P sm bm a s : Nat) (h c i : Nat) (w1 wr : World) (v : Value) : Prop where
  blk : Blk wr P 102 (npC a s sm bm v)
  own : wr.ownsRow w1.heap.size 106 6 v i (FC h c i)
  sms : PM wr sm 0 (fun _ => none)
  bms : PM wr bm 0 (fun _ => none)
  fr : Fr (fun _ => False) w1 wr
theorem own_slice6 {base : Nat} {w : World} {v : Value} {n : Nat} {xs : List Value} (h : w.ownsRow base 106 6 v n xs) : ∃ A cp, v = .slice A n cp := by
  rcases h.2 with ⟨e, h0⟩ | ⟨g, cap, cur, e, _⟩
  · subst h0; exact ⟨_, _, e⟩
  · exact ⟨_, _, e⟩
theorem own_same6 {base : Nat} {w w' : World} {v : Value} {n : Nat} {xs : List Value} (h : w.ownsRow base 106 6 v n xs) (hb : ∀ q, v.ownBlock = some q → w'.heap[q]? = w.heap[q]?) : w'.ownsRow base 106 6 v n xs := by
  refine ⟨h.1, ?_⟩
  rcases h.2 with h0 | ⟨g, cap, cur, e, h1, hg, h2⟩
  · exact .inl h0
  · exact .inr ⟨g, cap, cur, e, h1, (hb g (by rw [e]; rfl)).trans hg, h2⟩
theorem own_zero6 {base : Nat} {w : World} {v : Value} {n : Nat} {xs : List Value} (h : w.ownsRow base 106 6 v n xs) : w.ownsRow 0 106 6 v n xs := by
  refine ⟨h.1, ?_⟩
  rcases h.2 with h0 | ⟨g, cap, cur, e, h1, h2⟩
  · exact .inl h0
  · exact .inr ⟨g, cap, cur, e, Nat.zero_le _, h2⟩
theorem NwI.mid {P sm bm a s h c i : Nat} {w1 wr w4 : World} {v : Value} (hI : NwI P sm bm a s h c i w1 wr v) (o : Obj) (hgr : (wr.alloc o).grownBy w4 v.ownBlock) : Blk w4 P 102 (npC a s sm bm v) := by
  have f4 : Fr (fun q => v.ownBlock = some q) wr w4 := ((Fr.refl _ wr).alloc _).trans (Fr.grownV hgr)
  refine hI.blk.fr f4 (fun hq => ?_)
  rcases hI.own.2 with ⟨e, _⟩ | ⟨g, cp, cur, e, hg0, hg, _⟩
  · rw [e] at hq; cases hq
  · rw [e] at hq
    injection hq with hq
    subst hq
    have hg' : Blk wr g 106 cur := hg
    exact hg'.ne_ hI.blk (by decide) rfl
theorem NwI.next {P sm bm a s h c i : Nat} {w1 wr w4 : World} {v v' : Value} (hI : NwI P sm bm a s h c i w1 wr v) (hP : w1.heap.size ≤ P) (o : Obj) (hown : w4.ownsRow w1.heap.size 106 6 v' (i + 1) (FC h c i ++ FC1 (h + i * c))) (hgr : (wr.alloc o).grownBy w4 v.ownBlock) :
    NwI P sm bm a s h c (i + 1) w1 (w4.setCell ⟨P, 2, none⟩ v') v' := by
  have hne : ∀ q, v.ownBlock = some q → q ≠ P ∧ q ≠ sm ∧ q ≠ bm ∧ w1.heap.size ≤ q := fun q hq => by
    rcases hI.own.2 with ⟨e, _⟩ | ⟨g, cp, cur, e, hg0, hg, _⟩
    · rw [e] at hq; cases hq
    · rw [e] at hq
      injection hq with hq
      subst hq
      have hg' : Blk wr g 106 cur := hg
      exact ⟨hg'.ne_ hI.blk (by decide), fun q => (hI.sms.ne_ hg') q.symm, fun q => (hI.bms.ne_ hg') q.symm, hg0⟩
  have f4 : Fr (fun q => v.ownBlock = some q) wr w4 := ((Fr.refl _ wr).alloc _).trans (Fr.grownV hgr)
  have hb4 : Blk w4 P 102 (npC a s sm bm v) := hI.blk.fr f4 (fun q => (hne _ q).1 rfl)
  have s4 : PM w4 sm 0 (fun _ => none) := hI.sms.fr f4 (fun q => (hne _ q).2.1 rfl)
  have b4 : PM w4 bm 0 (fun _ => none) := hI.bms.fr f4 (fun q => (hne _ q).2.2.1 rfl)
  have f5 : Fr (· = P) w4 (w4.setCell ⟨P, 2, none⟩ v') := (Fr.refl (· = P) w4).set_ (p := ⟨P, 2, none⟩) rfl _
  refine ⟨hb4.set_ 2 _, ?_, s4.far (p := ⟨P, 2, none⟩) (s4.ne_ hb4) _, b4.far (p := ⟨P, 2, none⟩) (b4.ne_ hb4) _, ?_⟩
  · rw [FC_succ]
    refine own_same6 hown (fun q hq => ?_)
    rcases hown.2 with ⟨e, _⟩ | ⟨g, cp, cur, e, hg0, hg, _⟩
    · rw [e] at hq; cases hq
    · rw [e] at hq
      injection hq with hq
      subst hq
      have hg' : Blk w4 g 106 cur := hg
      exact f5.block _ hg'.lt (hg'.ne_ hb4 (by decide))
  · exact (hI.fr.trans_new f4 (fun q hq => .inr (hne q hq).2.2.2)).trans_new f5 (fun q hq => .inr (by rw [hq]; exact hP))
set_option maxHeartbeats 2000000 in
set_option maxRecDepth 100000 in
theorem New_ok {w : World} {a bb rm gm s m : Nat} {d : Ad} {sd : Sd} (h : Are w a bb rm gm d) (hs : Sto w s m sd) (hds : ∀ q, sd.mine s m q → ¬ arb a bb rm gm q) (c k : Nat) (hc : cl (sd.size : Int) = c) (hk1 : 1 ≤ k) (hk2 : k ≤ 64) (hG : ∀ q, d.G q = []) (hl : d.live = d.height) (hfit : d.height + k * c ≤ d.sz) (ho : d.ops < 900000) (hn : sd.n = 0) (hf : sd.fails < 0) :
    Calls Try.prog 14 #[.pointer (some ⟨a, 0, none⟩), .pointer (some ⟨s, 0, none⟩), .int .i64 k] w (NwPost a bb rm gm s m d sd c k w) := by
  obtain ⟨i0, hii, hz0, hz1, hz2⟩ := info_parts info82
  have hs2 := hs.hi
  have HT := Lib.hid (take_ok h sd.size c k (by omega) hc hk1 hk2 hG hl hfit ho)
  unfold TkPost at HT
  have HS := Lib.hid (Size_any hs)
  have HSt := Lib.hid hs
  have HDS := Lib.hid hds
  have hlim := h.lim
  have HN := Lib.hid hn
  have HF := Lib.hid hf
  have hmm := @run_makeMap Try.prog
  have hplace : ∀ i, i < k → d.height + i * c ≤ 4194304 := fun i hi => by
    have := Nat.mul_le_mul_right c (Nat.le_of_lt hi)
    omega
  have HPl := Lib.hid hplace
  clear h hs hds hc hG hl hn hf hfit hplace
  go_enter Try.func14, Try.ntmps14
  go_wp2_with (first
    | (go_at_call 39; refine HS.out.mono ?_; rintro e w1 ⟨rfl, rfl⟩)
    | (go_at_call 38
       refine HT.out.mono ?_
       rintro e w1 ⟨A, cp, d1, rfl, ho1, ht1⟩
       have HO1 := Lib.hid ho1
       have HT1 := Lib.hid ht1
       clear ho1 ht1))
  clear hmm
  obtain ⟨P, hP⟩ : ∃ P, P = w1.heap.size + 1 + 1 := ⟨_, rfl⟩
  obtain ⟨bm, hbm⟩ : ∃ bm, bm = w1.heap.size + 1 := ⟨_, rfl⟩
  obtain ⟨sm, hsm⟩ : ∃ sm, sm = w1.heap.size := ⟨_, rfl⟩
  have HI0 : Hid (NwI P sm bm a s d.height c 0 w1 (((w1.alloc (Obj.map #[] 0)).alloc (Obj.map #[] 0)).alloc (Obj.cells (npC a s sm bm (.slice none 0 0)) 102)) (.slice none 0 0)) := Lib.hid (by
    refine ⟨?_, World.ownsRow_nil _ _ 106 6, ?_, ?_, ((((Fr.refl _ w1).alloc _).alloc _).alloc _)⟩
    · have := Blk.new ((w1.alloc (Obj.map #[] 0)).alloc (Obj.map #[] 0)) 102 (npC a s sm bm (.slice none 0 0))
      rw [hP]
      simpa using this
    · rw [hsm]; exact ((PM.made w1).alloc _).alloc _
    · have := (PM.made (w1.alloc (Obj.map #[] 0))).alloc (Obj.cells (npC a s sm bm (.slice none 0 0)) 102)
      rw [show (w1.alloc (Obj.map #[] 0)).heap.size = bm from by rw [hbm]; simp] at this
      exact this)
  unfold npC at HI0
  have hPs : Hid (w1.heap.size ≤ P ∧ sm ≠ bm ∧ w1.heap.size ≤ sm ∧ w1.heap.size ≤ bm) := Lib.hid (by omega)
  rw [← hP, ← hbm, ← hsm]
  have hrow : ∃ g, A = some ⟨g, 0, none⟩ ∧ ∃ cur, Blk w1 g 3 cur ∧ k ≤ cp ∧ cp ≤ 9223372036854775807 ∧ ∀ i, i < k → cur[i]? = some (.int .i64 ((d.height + i * c : Nat) : Int)) := by
    rcases HO1.out.2 with ⟨_, h0⟩ | ⟨g, cap, cur, e, _, hg, h3, h4, h5, h6⟩
    · omega
    · injection e with e1 e2 e3
      subst e1; subst e3
      refine ⟨g, rfl, cur, hg, h3, h4, fun i hi => ?_⟩
      have : (TR d.height c k)[i]? = some (I64 (d.height + i * c)) := by simp [TR, hi]
      rw [← h6, List.getElem?_take_of_lt (by omega)] at this
      simpa [I64] using this
  obtain ⟨g, rfl, cur, hbg, hcp1, hcp2, hcells⟩ := hrow
  have HBg := Lib.hid hbg
  have HCl := Lib.hid hcells
  clear hP hbm hsm hbg hcells
  go_loopw [44] (fun v44 wr => ∃ (i : Nat) (v : Value), i ≤ k ∧ v44 = .int .i64 i ∧ Hid (NwI P sm bm a s d.height c i w1 wr v)) (fun v44 _ => k - (intOf v44).toNat)
  case atStart => exact ⟨0, _, Nat.zero_le _, rfl, HI0⟩
  case round =>
    obtain ⟨i, v, hi, rfl, HI⟩ := hrel
    by_cases hlt : i < k
    · obtain ⟨A2, cp2, rfl⟩ := own_slice6 HI.out.own
      have r0 : wr.cell? ⟨g, i, none⟩ = some (.int .i64 ((d.height + i * c : Nat) : Int)) := by rw [(HBg.out.fr HI.out.fr (fun q => q)).cell]; exact HCl.out i hlt
      have c2 : wr.cell? ⟨P, 2, none⟩ = some (.slice A2 i cp2) := HI.out.blk.cell 2
      have hp2 := HPl.out i hlt
      obtain ⟨p, hp⟩ : ∃ p, p = d.height + i * c := ⟨_, rfl⟩
      rw [← hp] at r0 hp2
      have HPp := Lib.hid hp
      have hsz1 : Hid (w1.heap.size ≤ wr.heap.size) := Lib.hid HI.out.fr.size
      clear hp
      go_wp2_with (at_builtin
                   go_loud (refine wpList_append_own _ rfl (.tmp 52) (.tmp 55) 100 rfl w1.heap.size 106 i0 _ 6 32 Try.underlying100 hii hz0 hz1 hz2 rfl (by decide) (.slice A2 i cp2) i (FC d.height c i) rfl (HI.out.own.alloc _) ⟨wr.heap.size, 0, none⟩ 1 1 (FC1 p) rfl rfl (Blk.src (Blk.new _ _ _)) (FC1_one p) (by unfold maxLen; omega) (by omega) (by have := hsz1.out; simp; omega) ?_)
                   intro v' w4 hown4 hgrow4 _
                   obtain ⟨A4, cp4, rfl⟩ := own_slice6 hown4
                   have HI4 := Lib.hid (HI.out.next hPs.out.1 _ (by rw [← HPp.out]; exact hown4) hgrow4)
                   have hm4 := HI.out.mid _ hgrow4
                   have c24 : w4.cell? ⟨P, 2, none⟩ = some (.slice A2 i cp2) := hm4.cell 2
                   have z24 : w4.frozen? ⟨P, 2, none⟩ = false := hm4.frozen 2
                   clear hown4 hgrow4 hm4)
      go_roundw
      case rel => exact ⟨i + 1, .slice A4 (i + 1) cp4, by omega, by go_num, HI4⟩
      case measure => simp [intOf]; omega
    · obtain rfl : i = k := by omega
      go_wp2
      go_ret2
      have hI := HI.out
      have ho := hI.own
      have hFw : Fr (arb a bb rm gm) w wr := HT1.out.fr.trans (hI.fr.more (fun _ q => q.elim))
      have hsw : Sto wr s m sd := HSt.out.fr hFw (fun q hq => HDS.out q hq)
      have hml : m < w.heap.size := HSt.out.mlt (.inr (.inl rfl))
      have hs1 := HT1.out.fr.size
      have hPs' := hPs.out
      obtain ⟨fb, cap, ev, hlay⟩ := nw_lay (h := d.height) (c := c) hk1 hk2 hI.blk (own_zero6 ho) hI.sms hI.bms hsw HN.out HF.out hPs'.2.1 (by omega) (by omega)
      refine ⟨⟨P, fb, cap, sm, bm, s, m, a⟩, d1, rfl, rfl, rfl, rfl, hlay, HT1.out.more hI.fr (fun q hq => hq.elim), by show w.heap.size ≤ P; omega, ?_, by show w.heap.size ≤ sm; omega, by show w.heap.size ≤ bm; omega⟩
      rcases ho.2 with ⟨_, h0⟩ | ⟨g', cap', cur', e, hg0, _⟩
      · omega
      · rw [ev] at e
        injection e with e1 e2 e3
        injection e1 with e1
        injection e1 with e1
        show w.heap.size ≤ fb
        omega
end Go.Proofs.Ytlnffcledpccjaa
/-
  A pager, its arena and what it holds, together; what is done leads from one to the next.
-/
namespace Go.Proofs.Ytlnffcledpccjaa
open Go.RowKit
set_option linter.unusedVariables false
structure Sv (w : World) (A : Pa) (d : Pd) (bb rm gm : Nat) (ad : Ad) (C : Nat × Nat → List Nat) (W : List (Nat × Nat)) : Prop where
  lay : Lay w A d
  are : Are w A.a bb rm gm ad
  dis : ∀ k, ad.mine A.a bb rm gm k → ¬ foot A d k
  pi : PI d ad.mem C W (fun _ => False)
theorem Sv.mx {w w' : World} {A : Pa} {d d' : Pd} {bb rm gm N : Nat} {ad : Ad} {m' : List Nat} {C C' : Nat × Nat → List Nat} {W W' : List (Nat × Nat)} (h : Sv w A d bb rm gm ad C W) (k : Mx A d d' bb rm gm ad m' C' W' N w w') : Sv w' A d' bb rm gm { ad with mem := m' } C' W' :=
  ⟨k.lay, k.are, fun q hq hf => by
    rcases k.ft q hf with e | e
    · exact h.dis q hq e
    · have := h.are.mlt (k := q) hq
      omega, k.pi⟩
theorem Sv.mv {w w' : World} {A : Pa} {d d' : Pd} {bb rm gm N : Nat} {ad : Ad} {C C' : Nat × Nat → List Nat} {W W' : List (Nat × Nat)} (h : Sv w A d bb rm gm ad C W) (k : Mv A d d' ad.mem C' W' N w w') : Sv w' A d' bb rm gm ad C' W' :=
  ⟨k.lay, h.are.fr k.fr (fun q hq => h.dis q hq), fun q hq hf => by
    rcases k.ft q hf with e | e
    · exact h.dis q hq e
    · have := h.are.mlt (k := q) hq
      omega, k.pi⟩
/-- what others do -/
theorem Sv.fr {w w' : World} {A : Pa} {d : Pd} {bb rm gm : Nat} {ad : Ad} {C : Nat × Nat → List Nat} {W : List (Nat × Nat)} {S : Nat → Prop} (h : Sv w A d bb rm gm ad C W) (hf : Fr S w w') (h1 : ∀ q, foot A d q → ¬ S q) (h2 : ∀ q, ad.mine A.a bb rm gm q → ¬ S q) : Sv w' A d bb rm gm ad C W :=
  ⟨h.lay.fr hf h1, h.are.fr hf h2, h.dis, h.pi⟩
theorem Sv.used {w : World} {A : Pa} {d : Pd} {bb rm gm : Nat} {ad : Ad} {C : Nat × Nat → List Nat} {W : List (Nat × Nat)} (h : Sv w A d bb rm gm ad C W) (L : List (Nat × Nat)) (hn : L.Nodup) (hL : ∀ x, x ∈ L ↔ d.blk x ≠ none) : d.sd.n = L.length := h.lay.bls.count_eq L hn hL
theorem Sv.new {w w' : World} {a bb rm gm s m c k : Nat} {ad : Ad} {sd : Sd} {e : Ending} (ha : Are w a bb rm gm ad) (hds : ∀ q, sd.mine s m q → ¬ arb a bb rm gm q) (hc : sd.size ≤ c) (hfit : ad.height + k * c ≤ ad.sz) (h : NwPost a bb rm gm s m ad sd c k w e w') :
    ∃ (A : Pa) (ad' : Ad), A.s = s ∧ A.m = m ∧ A.a = a ∧ e = .returned (.tuple #[.pointer (some ⟨A.p, 0, none⟩), .int .i64 0]) ∧ Sv w' A (nwd k ad.height c sd) bb rm gm ad' (fun _ => zs sd.size) [] ∧ TkI a bb rm gm ad ad' c k w w' ∧ (∀ q, foot A (nwd k ad.height c sd) q → w.heap.size ≤ q ∨ sd.mine s m q) := by
  obtain ⟨A, ad', rfl, rfl, rfl, e1, hlay, ht, hp, hfb, hsm, hbm⟩ := h
  refine ⟨A, ad', rfl, rfl, rfl, e1, ⟨hlay, ht.are, fun q hq hf => ?_, nwd_pi hc (by rw [ht.are.len, ht.sz]; exact hfit)⟩, ht, fun q hq => by
    rcases hq with q1 | q1 | q1 | q1 | q1
    · exact .inl (by omega)
    · exact .inl (by omega)
    · exact .inl (by omega)
    · exact .inl (by omega)
    · exact .inr q1⟩
  have hq4 : arb A.a bb rm gm q := by
    rcases hq with q1 | q1 | q1 | q1 | ⟨c', hc', _⟩
    · exact .inl q1
    · exact .inr (.inl q1)
    · exact .inr (.inr (.inl q1))
    · exact .inr (.inr (.inr q1))
    · exact absurd (ht.gn c') hc'
  have hlt : q < w.heap.size := ha.mlt (by
    rcases hq4 with q1 | q1 | q1 | q1
    · exact .inl q1
    · exact .inr (.inl q1)
    · exact .inr (.inr (.inl q1))
    · exact .inr (.inr (.inr (.inl q1))))
  rcases hf with q1 | q1 | q1 | q1 | q1
  · omega
  · omega
  · omega
  · omega
  · exact hds q q1 hq4
end Go.Proofs.Ytlnffcledpccjaa
/-
  A pager with its arena and what it holds, over a base; what others hold beside it stays (X): Read, Write of some bytes, Flush.
-/
namespace Go.Proofs.Ytlnffcledpccjaa
open Go.RowKit
set_option linter.unusedVariables false
structure S1 (w0 : World) (A : Pa) (bb rm gm n sz cap : Nat) (C : Nat × Nat → List Nat) (k o : Nat) (X : Nat → Prop) (w : World) : Prop where
  ex : ∃ d ad W, Sv w A d bb rm gm ad C W ∧ W.length ≤ k ∧ d.n = n ∧ d.sd.size = sz ∧ d.sd.cap = cap ∧ d.sd.ops ≤ o ∧ (∀ q, foot A d q → w0.heap.size ≤ q ∧ ¬ X q) ∧ (∀ q, ad.mine A.a bb rm gm q → w0.heap.size ≤ q ∧ ¬ X q)
  bel : Below w0.heap.size w0 w
  xs : ∀ q, X q → w0.heap.size ≤ q ∧ q < w.heap.size
/-- what is done may change: not what is told of below, and nothing of X -/
def KX (w0 : World) (X : Nat → Prop) (w w' : World) : Prop := Fr (fun q => w0.heap.size ≤ q ∧ ¬ X q) w w'
section
variable {w0 w w' : World} {A : Pa} {bb rm gm n sz cap k o : Nat} {C : Nat × Nat → List Nat} {X X' : Nat → Prop}
theorem S1.lt (h : S1 w0 A bb rm gm n sz cap C k o X w) : w0.heap.size ≤ w.heap.size := h.bel.size
theorem S1.more (h : S1 w0 A bb rm gm n sz cap C k o X w) {k' o' : Nat} (hk : k ≤ k') (ho : o ≤ o') : S1 w0 A bb rm gm n sz cap C k' o' X w := by
  obtain ⟨⟨d, ad, W, h1, h2, h3, h4, h5, h6, h7⟩, hb, hx⟩ := h
  exact ⟨⟨d, ad, W, h1, by omega, h3, h4, h5, by omega, h7⟩, hb, hx⟩
theorem S1.con (h : S1 w0 A bb rm gm n sz cap C k o X w) {C' : Nat × Nat → List Nat} (e : C = C') : S1 w0 A bb rm gm n sz cap C' k o X w := e ▸ h
/-- what others do, and make -/
theorem S1.ext (h : S1 w0 A bb rm gm n sz cap C k o X w) {S : Nat → Prop} (hf : Fr S w w') (hS : ∀ q, S q → X q ∨ w.heap.size ≤ q) (hX : ∀ q, X' q → X q ∨ (w.heap.size ≤ q ∧ q < w'.heap.size)) : S1 w0 A bb rm gm n sz cap C k o X' w' := by
  obtain ⟨⟨d, ad, W, h1, h2, h3, h4, h5, h6, h7, h8⟩, hb, hx⟩ := h
  have hl : ∀ q, foot A d q → q < w.heap.size := fun q hq => h1.lay.flt hq
  have hm : ∀ q, ad.mine A.a bb rm gm q → q < w.heap.size := fun q hq => h1.are.mlt hq
  refine ⟨⟨d, ad, W, h1.fr hf (fun q hq hs => ?_) (fun q hq hs => ?_), h2, h3, h4, h5, h6, fun q hq => ⟨(h7 q hq).1, fun hx' => ?_⟩, fun q hq => ⟨(h8 q hq).1, fun hx' => ?_⟩⟩, ?_, fun q hq => ?_⟩
  · rcases hS q hs with e | e
    · exact (h7 q hq).2 e
    · have := hl q hq; omega
  · rcases hS q hs with e | e
    · exact (h8 q hq).2 e
    · have := hm q hq; omega
  · rcases hX q hx' with e | ⟨e, _⟩
    · exact (h7 q hq).2 e
    · have := hl q hq; omega
  · rcases hX q hx' with e | ⟨e, _⟩
    · exact (h8 q hq).2 e
    · have := hm q hq; omega
  · refine hf.below hb hb.size (fun q hq => ?_)
    rcases hS q hq with e | e
    · exact (hx q e).1
    · exact Nat.le_trans hb.size e
  · rcases hX q hq with e | ⟨e, e'⟩
    · exact ⟨(hx q e).1, Nat.lt_of_lt_of_le (hx q e).2 hf.size⟩
    · exact ⟨Nat.le_trans hb.size e, e'⟩
theorem S1.quiet (h : S1 w0 A bb rm gm n sz cap C k o X w) (hf : Fr (fun _ => False) w w') : S1 w0 A bb rm gm n sz cap C k o X w' := h.ext hf (fun _ q => q.elim) (fun _ q => .inl q)
theorem S1.drewN (h : S1 w0 A bb rm gm n sz cap C k o X w) (j : Nat) : S1 w0 A bb rm gm n sz cap C k o X (w.drewN j) := h.quiet ((Fr.refl _ w).drewN j)
theorem S1.alloc (h : S1 w0 A bb rm gm n sz cap C k o X w) (ob : Obj) : S1 w0 A bb rm gm n sz cap C k o (fun q => X q ∨ q = w.heap.size) (w.alloc ob) := h.ext (S := fun _ => False) ((Fr.refl _ w).alloc ob) (fun _ q => q.elim) (fun q hq => by
  rcases hq with e | e
  · exact .inl e
  · refine .inr ⟨by omega, ?_⟩
    rw [e]
    unfold World.alloc
    simp)
theorem S1.less (h : S1 w0 A bb rm gm n sz cap C k o X w) (hX : ∀ q, X' q → X q) : S1 w0 A bb rm gm n sz cap C k o X' w := h.ext (Fr.refl (fun _ => False) w) (fun _ q => q.elim) (fun q hq => .inl (hX q hq))
theorem KX.fr (h : KX w0 X w w') : Fr (fun q => w0.heap.size ≤ q ∧ ¬ X q) w w' := h
theorem KX.refl (w0 : World) (X : Nat → Prop) (w : World) : KX w0 X w w := Fr.refl _ w
theorem KX.trans {w'' : World} (h : KX w0 X w w') (h' : KX w0 X w' w'') : KX w0 X w w'' := Fr.trans h h'
/-- a step that only makes -/
theorem KX.new (h : KX w0 X w w') {w'' : World} (hf : Fr (fun _ => False) w' w'') : KX w0 X w w'' := Fr.trans h (hf.more (fun _ q => q.elim))
theorem KX.less (h : KX w0 X' w w') (hX : ∀ q, X q → X' q) : KX w0 X w w' := Fr.more h (fun q hq => ⟨hq.1, fun hx => hq.2 (hX q hx)⟩)
/-- X may be grown by what is newly made -/
theorem KX.in_ {w1 : World} (h : KX w0 X w w') (hf : Fr (fun _ => False) w1 w) : KX w0 X w1 w' := Fr.trans (hf.more (fun _ q => q.elim)) h
theorem KX.byt (h : KX w0 X w w') {g off nn cp : Nat} {l : List Nat} (hb : Byt w (some ⟨g, off, none⟩) nn cp l) (hg : X g ∨ g < w0.heap.size) : Byt w' (some ⟨g, off, none⟩) nn cp l :=
  ⟨hb.1, hb.2.1, hb.2.2.1, hb.2.2.2.1, fun h0 => by
    obtain ⟨b, of', e, hlt, hc⟩ := hb.2.2.2.2 h0
    injection e with e
    injection e with e1 e2 _
    subst e1 e2
    refine ⟨g, off, rfl, Nat.lt_of_lt_of_le hlt (KX.fr h).size, fun j hj => ?_⟩
    rw [← hc j hj]
    unfold World.cell?
    rw [(KX.fr h).block g hlt (fun q => by
      rcases hg with e | e
      · exact q.2 e
      · have := q.1; omega)]⟩
def WrP (w0 : World) (A : Pa) (bb rm gm n sz cap : Nat) (C : Nat × Nat → List Nat) (k o : Nat) (X : Nat → Prop) (w : World) (e : Ending) (w' : World) : Prop :=
  e = .returned (.int .i64 0) ∧ S1 w0 A bb rm gm n sz cap C k o X w' ∧ KX w0 X w w'
theorem S1.mx {d d' : Pd} {ad : Ad} {m' : List Nat} {C' : Nat × Nat → List Nat} {W W' : List (Nat × Nat)} {k' N : Nat} (h1 : Sv w A d bb rm gm ad C W) (hbel : Below w0.heap.size w0 w) (hxs : ∀ q, X q → w0.heap.size ≤ q ∧ q < w.heap.size) (h3 : d.n = n) (h4 : d.sd.size = sz) (h5 : d.sd.cap = cap) (h6 : d.sd.ops ≤ o)
    (h7 : ∀ q, foot A d q → w0.heap.size ≤ q ∧ ¬ X q) (h8 : ∀ q, ad.mine A.a bb rm gm q → w0.heap.size ≤ q ∧ ¬ X q) (hm : Mx A d d' bb rm gm ad m' C' W' N w w') (hk : W'.length ≤ k') : S1 w0 A bb rm gm n sz cap C' k' (o + N) X w' ∧ KX w0 X w w' := by
  have hbb := h8 bb (.inr (.inl rfl))
  refine ⟨⟨⟨d', _, W', h1.mx hm, hk, hm.n.trans h3, hm.size.trans h4, hm.cap.trans h5, by have := hm.ops; omega, fun q hq => ?_, fun q hq => h8 q hq⟩, ?_, fun q hq => ⟨(hxs q hq).1, Nat.lt_of_lt_of_le (hxs q hq).2 hm.fr.size⟩⟩, ?_⟩
  · rcases hm.ft q hq with e | e
    · exact h7 q e
    · exact ⟨Nat.le_trans hbel.size e, fun hx => by have := (hxs q hx).2; omega⟩
  · exact hm.fr.below hbel hbel.size (fun q hq => by
      rcases hq with e | e
      · exact (h7 q e).1
      · rw [e]; exact hbb.1)
  · exact Fr.more hm.fr (fun q hq => by
      rcases hq with e | e
      · exact h7 q e
      · rw [e]; exact hbb)
theorem S1.write (h : S1 w0 A bb rm gm n sz cap C k o X w) (a b of_ nn cp g off : Nat) (l : List Nat) (hx : small (a, b)) (h0 : 0 < nn) (hon : of_ + nn ≤ sz) (hb : Byt w (some ⟨g, off, none⟩) nn cp l) (hg : X g ∨ g < w0.heap.size) (ho : o < 900000) (hk : k ≤ cap) :
    Calls Try.prog 16 #[.pointer (some ⟨A.p, 0, none⟩), .int .i64 a, .int .i64 b, .int .i64 of_, .slice (some ⟨g, off, none⟩) nn cp] w (WrP w0 A bb rm gm n sz cap (upd C (a, b) (putM (C (a, b)) of_ l)) (k + 1) (o + 3) X w) := by
  obtain ⟨⟨d, ad, W, h1, h2, h3, h4, h5, h6, h7, h8⟩, hbel, hxs⟩ := h
  have hng : ∀ q, (w0.heap.size ≤ q ∧ ¬ X q) → g ≠ q := fun q hq e => by
    subst e
    rcases hg with e | e
    · exact hq.2 e
    · have := hq.1; omega
  refine (PWrite_ok h1.lay h1.are h1.dis h1.pi (by omega) (by omega) a b of_ nn cp g off l hx h0 (by omega) hb (fun hq => hng g (h7 g hq) rfl) (hng bb (h8 bb (.inr (.inl rfl))))).mono ?_
  rintro e w' ⟨d', m', j, rfl, hm, _⟩
  have := S1.mx h1 hbel hxs h3 h4 h5 h6 h7 h8 hm (k' := k + 1) (by simp; omega)
  exact ⟨rfl, this.1, this.2⟩
def RdP (w0 : World) (A : Pa) (bb rm gm n sz cap : Nat) (C : Nat × Nat → List Nat) (k o : Nat) (X : Nat → Prop) (x : Nat × Nat) (of_ nn : Nat) (w : World) (e : Ending) (w' : World) : Prop :=
  ∃ g : Nat, e = .returned (.tuple #[.slice (some ⟨g, 0, none⟩) nn nn, .int .i64 0]) ∧ w.heap.size ≤ g ∧ Byt w' (some ⟨g, 0, none⟩) nn nn (((C x).drop of_).take nn) ∧ S1 w0 A bb rm gm n sz cap C k o X w' ∧ KX w0 X w w'
theorem S1.read (h : S1 w0 A bb rm gm n sz cap C k o X w) (a b of_ nn : Nat) (hx : small (a, b)) (h0 : 0 < nn) (hon : of_ + nn ≤ sz) (ho : o < 900000) (hk : k ≤ cap) :
    Calls Try.prog 15 #[.pointer (some ⟨A.p, 0, none⟩), .int .i64 a, .int .i64 b, .int .i64 of_, .int .i64 nn] w (RdP w0 A bb rm gm n sz cap C k (o + 3) X (a, b) of_ nn w) := by
  obtain ⟨⟨d, ad, W, h1, h2, h3, h4, h5, h6, h7, h8⟩, hbel, hxs⟩ := h
  refine (PRead_ok h1.lay h1.are h1.dis h1.pi (by omega) (by omega) a b of_ nn hx h0 (by omega)).mono ?_
  rintro e w' ⟨g, j, d', m', rfl, hy, hm, _, _, _, _, hfresh, _⟩
  have := S1.mx h1 hbel hxs h3 h4 h5 h6 h7 h8 hm (k' := k) h2
  exact ⟨g, rfl, hfresh, hy, this.1, this.2⟩
def FlP (w0 : World) (A : Pa) (bb rm gm n sz cap : Nat) (C : Nat × Nat → List Nat) (k o : Nat) (X : Nat → Prop) (w : World) (e : Ending) (w' : World) : Prop :=
  e = .returned (.int .i64 0) ∧ S1 w0 A bb rm gm n sz cap C k o X w' ∧ KX w0 X w w' ∧ ∀ (L : List (Nat × Nat)) (m : Nat), L.Nodup → (∀ x, x ∈ L ↔ C x ≠ zs sz) → Calls Try.prog 21 #[.pointer (some ⟨A.s, 0, none⟩)] (w'.drewN m) fun e w'' => e = .returned (.int .i64 L.length) ∧ w'' = w'.drewN m
theorem S1.flush (h : S1 w0 A bb rm gm n sz cap C k o X w) (ho : o < 800000) (hk : k ≤ cap) :
    Calls Try.prog 18 #[.pointer (some ⟨A.p, 0, none⟩)] w (FlP w0 A bb rm gm n sz cap C k (o + 2 * n) X w) := by
  obtain ⟨⟨d, ad, W, h1, h2, h3, h4, h5, h6, h7, h8⟩, hbel, hxs⟩ := h
  refine (Flush_ok h1.lay h1.are h1.dis h1.pi (by omega) (by omega)).mono ?_
  rintro e w' ⟨rfl, d', hf⟩
  have hv := h1.mv hf.mv
  refine ⟨rfl, ⟨⟨d', ad, W, hv, h2, hf.mv.n.trans h3, hf.mv.size.trans h4, hf.mv.cap.trans h5, by have := hf.mv.ops; rw [h3] at this; omega, fun q hq => ?_, h8⟩, ?_, fun q hq => ⟨(hxs q hq).1, Nat.lt_of_lt_of_le (hxs q hq).2 hf.mv.fr.size⟩⟩, ?_, fun L m hn hL => ?_⟩
  · rcases hf.mv.ft q hq with e | e
    · exact h7 q e
    · exact ⟨Nat.le_trans hbel.size e, fun hx => by have := (hxs q hx).2; omega⟩
  · exact hf.mv.fr.below hbel hbel.size (fun q hq => (h7 q hq).1)
  · exact Fr.more hf.mv.fr (fun q hq => h7 q hq)
  · have hu := Used_any (hv.lay.drewN m).sto
    have hq : d'.sd.n = L.length := hv.used L hn (fun x => by rw [hL x, hf.whole x, h4])
    rw [hq] at hu
    exact hu.mono fun e w'' q => ⟨q.1, q.2.symm⟩
theorem S1.writeI (h : S1 w0 A bb rm gm n sz cap C k o X w) (a b of_ nn cp g off : Nat) (l : List Nat) (hx : small (a, b)) (h0 : 0 < nn) (hon : of_ + nn ≤ sz) (hb : Byt w (some ⟨g, off, none⟩) nn cp l) (hg : X g ∨ g < w0.heap.size) (ho : o < 900000) (hk : k ≤ cap) {C' : Nat × Nat → List Nat} (hC : upd C (a, b) (putM (C (a, b)) of_ l) = C') {ai bi oi ni : Int} (ea : ai = a) (eb : bi = b) (eo : oi = of_) (en : ni = nn) :
    Calls Try.prog 16 #[.pointer (some ⟨A.p, 0, none⟩), .int .i64 ai, .int .i64 bi, .int .i64 oi, .slice (some ⟨g, off, none⟩) nn cp] w (WrP w0 A bb rm gm n sz cap C' (k + 1) (o + 3) X w) := by
  subst ea eb eo hC
  exact h.write a b of_ nn cp g off l hx h0 hon hb hg ho hk
theorem S1.readI (h : S1 w0 A bb rm gm n sz cap C k o X w) (a b of_ nn : Nat) (hx : small (a, b)) (h0 : 0 < nn) (hon : of_ + nn ≤ sz) (ho : o < 900000) (hk : k ≤ cap) {ai bi oi ni : Int} (ea : ai = a) (eb : bi = b) (eo : oi = of_) (en : ni = nn) :
    Calls Try.prog 15 #[.pointer (some ⟨A.p, 0, none⟩), .int .i64 ai, .int .i64 bi, .int .i64 oi, .int .i64 ni] w (RdP w0 A bb rm gm n sz cap C k (o + 3) X (a, b) of_ nn w) := by
  subst ea eb eo en
  exact h.read a b of_ nn hx h0 hon ho hk
theorem S1.new {w0 w1 w2 : World} {a bb rm gm s m N sz cp k : Nat} (h1 : Are w1 a bb rm gm (nuA N)) (b1 : Below w0.heap.size w0 w1) (ha : w0.heap.size ≤ a ∧ w0.heap.size ≤ bb ∧ w0.heap.size ≤ rm ∧ w0.heap.size ≤ gm) (h2 : Sto w2 s m (nu sz cp)) (b2 : Below w1.heap.size w1 w2) (hs : w1.heap.size ≤ s) (hm : w1.heap.size ≤ m)
    (hcl : cl ((sz : Nat) : Int) = sz) (hk1 : 1 ≤ k) (hk2 : k ≤ 64) (hfit : k * sz ≤ N) :
    Calls Try.prog 14 #[.pointer (some ⟨a, 0, none⟩), .pointer (some ⟨s, 0, none⟩), .int .i64 k] w2 fun e w3 => ∃ A : Pa, A.s = s ∧ e = .returned (.tuple #[.pointer (some ⟨A.p, 0, none⟩), .int .i64 0]) ∧ S1 w0 A bb rm gm k sz cp (fun _ => zs sz) 0 0 (fun _ => False) w3 := by
  have hds : ∀ q, (nu sz cp).mine s m q → ¬ arb a bb rm gm q := fun q hq hq4 => by
    have hlt : q < w1.heap.size := h1.mlt (by
      rcases hq4 with q1 | q1 | q1 | q1
      · exact .inl q1
      · exact .inr (.inl q1)
      · exact .inr (.inr (.inl q1))
      · exact .inr (.inr (.inr (.inl q1))))
    rcases hq with q1 | q1 | ⟨i, hi, _⟩
    · omega
    · omega
    · cases hi
  have h12 : Are w2 a bb rm gm (nuA N) := h1.below b2 (Nat.le_refl _)
  have b12 : Below w0.heap.size w0 w2 := b1.trans (b2.mono b1.size)
  have hh : (nuA N).height = 0 := rfl
  refine (New_ok h12 h2 hds sz k hcl hk1 hk2 (fun _ => rfl) rfl (by rw [hh]; show 0 + k * sz ≤ N; omega) (by show (0:Nat) < 900000; decide) rfl (by show (-1 : Int) < 0; decide)).mono ?_
  rintro e w3 h3
  obtain ⟨A, ad, hAs, hAm, hAa, rfl, hsv, htk, hft⟩ := Sv.new (c := sz) h12 hds (Nat.le_refl _) (by rw [hh]; show 0 + k * sz ≤ N; omega) h3
  have b3 : Below w0.heap.size w0 w3 := htk.fr.below b12 b12.size (fun q hq => by
    rcases hq with q1 | q1 | q1 | q1 <;> rw [q1]
    · exact ha.1
    · exact ha.2.1
    · exact ha.2.2.1
    · exact ha.2.2.2)
  refine ⟨A, hAs, rfl, ⟨_, ad, [], hsv, Nat.le_refl _, rfl, rfl, rfl, Nat.le_refl _, fun q hq => ⟨?_, fun q => q⟩, fun q hq => ⟨?_, fun q => q⟩⟩, b3, fun q hq => hq.elim⟩
  · rcases hft q hq with q1 | q1 | q1 | ⟨i, hi, _⟩
    · have := b12.size; omega
    · have := b1.size; omega
    · have := b1.size; omega
    · cases hi
  · rcases hq with q1 | q1 | q1 | q1 | ⟨c', hc', _⟩
    · rw [q1, hAa]; exact ha.1
    · rw [q1]; exact ha.2.1
    · rw [q1]; exact ha.2.2.1
    · rw [q1]; exact ha.2.2.2
    · exact absurd (htk.gn c') hc'
end
end Go.Proofs.Ytlnffcledpccjaa
