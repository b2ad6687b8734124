/-
  pager.New, where that many rooms can be cut off.
-/
import Derived.Test.YtlnffcledpccjaaGo
namespace Go.Proofs.Ytlnffcledpccjaa
open Go.ChangeShapes Go.WideShapes Go.ChangeAt Go.RowKit
set_option linter.unusedVariables false
set_option linter.unusedSimpArgs false
theorem info82 : (Try.prog.info? 106).map (fun i => (i.zero, i.size, i.bytes)) = some (some (.agg #[.int .i64 0, .int .i64 0, .int .i64 0, .bool false, .bool false, .bool false]), 6, 32) := by kernel_rfl
def FC1 (p : Nat) : List Value := [.int .i64 (p : Nat), .int .i64 0, .int .i64 0, .bool false, .bool false, .bool false]
theorem FC1_one (p : Nat) : ∀ v ∈ FC1 p, v.oneCell' = true := by
  intro v hv
  simp only [FC1, List.mem_cons, List.not_mem_nil, or_false] at hv
  rcases hv with rfl | rfl | rfl | rfl | rfl | rfl <;> rfl
def FC (h c k : Nat) : List Value := (List.range k).flatMap fun i => FC1 (h + i * c)
theorem FC_succ (h c k : Nat) : FC h c (k + 1) = FC h c k ++ FC1 (h + k * c) := by simp [FC, List.range_succ]
theorem FC_len (h c : Nat) : ∀ k, (FC h c k).length = k * 6
  | 0 => rfl
  | k + 1 => by rw [FC_succ, List.length_append, FC_len h c k]; simp [FC1]; omega
theorem FC_get (h c : Nat) : ∀ (k i q : Nat) (v : Value), i < k → (FC1 (h + i * c))[q]? = some v → (FC h c k)[i * 6 + q]? = some v
  | k + 1, i, q, v, hi, hv => by
    have hq : q < 6 := by
      have := (List.getElem?_eq_some_iff.1 hv).1
      simpa [FC1] using this
    rw [FC_succ]
    by_cases e : i = k
    · subst e
      rw [List.getElem?_append_right (by rw [FC_len]; omega), FC_len, show i * 6 + q - i * 6 = q from by omega]
      exact hv
    · rw [List.getElem?_append_left (by rw [FC_len]; omega)]
      exact FC_get h c k i q v (by omega) hv
def nwd (k h c : Nat) (sd : Sd) : Pd := { n := k, room := fun i => h + i * c, pg := fun _ => (0, 0), tk := fun _ => false, th := fun _ => false, ch := fun _ => false, hand := 0, st := fun _ => none, blk := fun _ => none, sd := sd }
theorem nwd_pi {k h c : Nat} {sd : Sd} {mem : List Nat} (hs : sd.size ≤ c) (hm : h + k * c ≤ mem.length) : PI (nwd k h c sd) mem (fun _ => zs sd.size) [] (fun _ => False) := by
  have hmul : ∀ i, i < k → i * c + c ≤ k * c := fun i hi => by
    have := Nat.mul_le_mul_right c (show i + 1 ≤ k from hi)
    rw [Nat.succ_mul] at this
    exact this
  refine ⟨fun i hi => ?_, fun i j hi hj hne => ?_, fun x i => ?_, fun i hi => ?_, fun x => ?_, fun i hi ht => ?_, fun x id hb => ?_, fun x y id hb => ?_, fun x id _ _ hb => ?_, fun x _ _ _ => rfl, fun i hi ht => ?_, fun x hx => ?_, fun i hi ht => ?_, fun i hi ht => rfl⟩
  · have := hmul i hi
    show h + i * c + sd.size ≤ mem.length
    omega
  · show h + i * c + sd.size ≤ h + j * c ∨ h + j * c + sd.size ≤ h + i * c
    rcases Nat.lt_or_gt_of_ne hne with q | q
    · have := Nat.mul_le_mul_right c (show i + 1 ≤ j from q)
      rw [Nat.succ_mul] at this
      left; omega
    · have := Nat.mul_le_mul_right c (show j + 1 ≤ i from q)
      rw [Nat.succ_mul] at this
      right; omega
  · exact ⟨fun q => (by cases q), fun q => (by cases q.2.1)⟩
  · exact ⟨Nat.zero_le _, Nat.zero_le _⟩
  · exact ⟨by simp [zs]; rfl, fun y hy => by have := List.eq_of_mem_replicate hy; omega⟩
  · cases ht
  · cases hb
  · cases hb
  · cases hb
  · cases ht
  · exact absurd rfl hx
  · cases ht
def NwPost (a bb rm gm s m : Nat) (ad : Ad) (sd : Sd) (c k : Nat) (w : World) (e : Ending) (w' : World) : Prop :=
  ∃ (A : Pa) (d' : Ad), A.s = s ∧ A.m = m ∧ A.a = a ∧ e = .returned (.tuple #[.pointer (some ⟨A.p, 0, none⟩), .int .i64 0]) ∧ Lay w' A (nwd k ad.height c sd) ∧ TkI a bb rm gm ad d' c k w w' ∧ w.heap.size ≤ A.p ∧ w.heap.size ≤ A.fb ∧ w.heap.size ≤ A.sm ∧ w.heap.size ≤ A.bm
def npC (a s sm bm : Nat) (v : Value) : Array Value := #[.pointer (some ⟨a, 0, none⟩), .pointer (some ⟨s, 0, none⟩), v, .map (some sm), .map (some bm), .int .i64 0, .int .i64 0]
theorem nw_lay {w : World} {P sm bm a s m k h c : Nat} {sd : Sd} {v : Value} (h1 : 1 ≤ k) (h2 : k ≤ 64) (hb : Blk w P 102 (npC a s sm bm v)) (ho : w.ownsRow 0 106 6 v k (FC h c k)) (hsm : PM w sm 0 (fun _ => none)) (hbm : PM w bm 0 (fun _ => none)) (hs : Sto w s m sd) (hn : sd.n = 0) (hf : sd.fails < 0) (e1 : sm ≠ bm) (e2 : sm ≠ m) (e3 : bm ≠ m) :
    ∃ fb cap, v = .slice (some ⟨fb, 0, none⟩) k cap ∧ Lay w ⟨P, fb, cap, sm, bm, s, m, a⟩ (nwd k h c sd) := by
  rcases ho.2 with ⟨_, h0⟩ | ⟨g, cap, cur, rfl, _, hg, h3, h4, h5, h6⟩
  · omega
  refine ⟨g, cap, rfl, hb, ⟨cur, hg, fun i hi q u hu => ?_⟩, ⟨0, Nat.zero_le _, hsm⟩, by show PM w bm sd.n _; rw [hn]; exact hbm, hs, e1, e2, e3, h1, h2, h3, h4, h1, hf⟩
  have := FC_get h c k i q u hi (by simpa [frC, nwd, FC1, I64] using hu)
  rw [← h6] at this
  have hq : i * 6 + q < k * 6 := by
    have h7 := (List.getElem?_eq_some_iff.1 this).1
    rw [List.length_take] at h7
    omega
  rw [List.getElem?_take_of_lt hq] at this
  simpa using this
/-- the loop of New: so many frames are there -/
structure NwI (P sm bm a s : Nat) (h c i : Nat) (w1 wr : World) (v : Value) : Prop where
  blk : Blk wr P 102 (npC a s sm bm v)
  own : wr.ownsRow w1.heap.size 106 6 v i (FC h c i)
  sms : PM wr sm 0 (fun _ => none)
  bms : PM wr bm 0 (fun _ => none)
  fr : Fr (fun _ => False) w1 wr
theorem own_slice6 {base : Nat} {w : World} {v : Value} {n : Nat} {xs : List Value} (h : w.ownsRow base 106 6 v n xs) : ∃ A cp, v = .slice A n cp := by
  rcases h.2 with ⟨e, h0⟩ | ⟨g, cap, cur, e, _⟩
  · subst h0; exact ⟨_, _, e⟩
  · exact ⟨_, _, e⟩
theorem own_same6 {base : Nat} {w w' : World} {v : Value} {n : Nat} {xs : List Value} (h : w.ownsRow base 106 6 v n xs) (hb : ∀ q, v.ownBlock = some q → w'.heap[q]? = w.heap[q]?) : w'.ownsRow base 106 6 v n xs := by
  refine ⟨h.1, ?_⟩
  rcases h.2 with h0 | ⟨g, cap, cur, e, h1, hg, h2⟩
  · exact .inl h0
  · exact .inr ⟨g, cap, cur, e, h1, (hb g (by rw [e]; rfl)).trans hg, h2⟩
theorem own_zero6 {base : Nat} {w : World} {v : Value} {n : Nat} {xs : List Value} (h : w.ownsRow base 106 6 v n xs) : w.ownsRow 0 106 6 v n xs := by
  refine ⟨h.1, ?_⟩
  rcases h.2 with h0 | ⟨g, cap, cur, e, h1, h2⟩
  · exact .inl h0
  · exact .inr ⟨g, cap, cur, e, Nat.zero_le _, h2⟩
theorem NwI.mid {P sm bm a s h c i : Nat} {w1 wr w4 : World} {v : Value} (hI : NwI P sm bm a s h c i w1 wr v) (o : Obj) (hgr : (wr.alloc o).grownBy w4 v.ownBlock) : Blk w4 P 102 (npC a s sm bm v) := by
  have f4 : Fr (fun q => v.ownBlock = some q) wr w4 := ((Fr.refl _ wr).alloc _).trans (Fr.grownV hgr)
  refine hI.blk.fr f4 (fun hq => ?_)
  rcases hI.own.2 with ⟨e, _⟩ | ⟨g, cp, cur, e, hg0, hg, _⟩
  · rw [e] at hq; cases hq
  · rw [e] at hq
    injection hq with hq
    subst hq
    have hg' : Blk wr g 106 cur := hg
    exact hg'.ne_ hI.blk (by decide) rfl
theorem NwI.next {P sm bm a s h c i : Nat} {w1 wr w4 : World} {v v' : Value} (hI : NwI P sm bm a s h c i w1 wr v) (hP : w1.heap.size ≤ P) (o : Obj) (hown : w4.ownsRow w1.heap.size 106 6 v' (i + 1) (FC h c i ++ FC1 (h + i * c))) (hgr : (wr.alloc o).grownBy w4 v.ownBlock) :
    NwI P sm bm a s h c (i + 1) w1 (w4.setCell ⟨P, 2, none⟩ v') v' := by
  have hne : ∀ q, v.ownBlock = some q → q ≠ P ∧ q ≠ sm ∧ q ≠ bm ∧ w1.heap.size ≤ q := fun q hq => by
    rcases hI.own.2 with ⟨e, _⟩ | ⟨g, cp, cur, e, hg0, hg, _⟩
    · rw [e] at hq; cases hq
    · rw [e] at hq
      injection hq with hq
      subst hq
      have hg' : Blk wr g 106 cur := hg
      exact ⟨hg'.ne_ hI.blk (by decide), fun q => (hI.sms.ne_ hg') q.symm, fun q => (hI.bms.ne_ hg') q.symm, hg0⟩
  have f4 : Fr (fun q => v.ownBlock = some q) wr w4 := ((Fr.refl _ wr).alloc _).trans (Fr.grownV hgr)
  have hb4 : Blk w4 P 102 (npC a s sm bm v) := hI.blk.fr f4 (fun q => (hne _ q).1 rfl)
  have s4 : PM w4 sm 0 (fun _ => none) := hI.sms.fr f4 (fun q => (hne _ q).2.1 rfl)
  have b4 : PM w4 bm 0 (fun _ => none) := hI.bms.fr f4 (fun q => (hne _ q).2.2.1 rfl)
  have f5 : Fr (· = P) w4 (w4.setCell ⟨P, 2, none⟩ v') := (Fr.refl (· = P) w4).set_ (p := ⟨P, 2, none⟩) rfl _
  refine ⟨hb4.set_ 2 _, ?_, s4.far (p := ⟨P, 2, none⟩) (s4.ne_ hb4) _, b4.far (p := ⟨P, 2, none⟩) (b4.ne_ hb4) _, ?_⟩
  · rw [FC_succ]
    refine own_same6 hown (fun q hq => ?_)
    rcases hown.2 with ⟨e, _⟩ | ⟨g, cp, cur, e, hg0, hg, _⟩
    · rw [e] at hq; cases hq
    · rw [e] at hq
      injection hq with hq
      subst hq
      have hg' : Blk w4 g 106 cur := hg
      exact f5.block _ hg'.lt (hg'.ne_ hb4 (by decide))
  · exact (hI.fr.trans_new f4 (fun q hq => .inr (hne q hq).2.2.2)).trans_new f5 (fun q hq => .inr (by rw [hq]; exact hP))
set_option maxHeartbeats 2000000 in
set_option maxRecDepth 100000 in
theorem New_ok {w : World} {a bb rm gm s m : Nat} {d : Ad} {sd : Sd} (h : Are w a bb rm gm d) (hs : Sto w s m sd) (hds : ∀ q, sd.mine s m q → ¬ arb a bb rm gm q) (c k : Nat) (hc : cl (sd.size : Int) = c) (hk1 : 1 ≤ k) (hk2 : k ≤ 64) (hG : ∀ q, d.G q = []) (hl : d.live = d.height) (hfit : d.height + k * c ≤ d.sz) (ho : d.ops < 900000) (hn : sd.n = 0) (hf : sd.fails < 0) :
    Calls Try.prog 14 #[.pointer (some ⟨a, 0, none⟩), .pointer (some ⟨s, 0, none⟩), .int .i64 k] w (NwPost a bb rm gm s m d sd c k w) := by
  obtain ⟨i0, hii, hz0, hz1, hz2⟩ := info_parts info82
  have hs2 := hs.hi
  have HT := Lib.hid (take_ok h sd.size c k (by omega) hc hk1 hk2 hG hl hfit ho)
  unfold TkPost at HT
  have HS := Lib.hid (Size_any hs)
  have HSt := Lib.hid hs
  have HDS := Lib.hid hds
  have hlim := h.lim
  have HN := Lib.hid hn
  have HF := Lib.hid hf
  have hmm := @run_makeMap Try.prog
  have hplace : ∀ i, i < k → d.height + i * c ≤ 4194304 := fun i hi => by
    have := Nat.mul_le_mul_right c (Nat.le_of_lt hi)
    omega
  have HPl := Lib.hid hplace
  clear h hs hds hc hG hl hn hf hfit hplace
  go_enter Try.func14, Try.ntmps14
  go_wp2_with (first
    | (go_at_call 39; refine HS.out.mono ?_; rintro e w1 ⟨rfl, rfl⟩)
    | (go_at_call 38
       refine HT.out.mono ?_
       rintro e w1 ⟨A, cp, d1, rfl, ho1, ht1⟩
       have HO1 := Lib.hid ho1
       have HT1 := Lib.hid ht1
       clear ho1 ht1))
  clear hmm
  obtain ⟨P, hP⟩ : ∃ P, P = w1.heap.size + 1 + 1 := ⟨_, rfl⟩
  obtain ⟨bm, hbm⟩ : ∃ bm, bm = w1.heap.size + 1 := ⟨_, rfl⟩
  obtain ⟨sm, hsm⟩ : ∃ sm, sm = w1.heap.size := ⟨_, rfl⟩
  have HI0 : Hid (NwI P sm bm a s d.height c 0 w1 (((w1.alloc (Obj.map #[] 0)).alloc (Obj.map #[] 0)).alloc (Obj.cells (npC a s sm bm (.slice none 0 0)) 102)) (.slice none 0 0)) := Lib.hid (by
    refine ⟨?_, World.ownsRow_nil _ _ 106 6, ?_, ?_, ((((Fr.refl _ w1).alloc _).alloc _).alloc _)⟩
    · have := Blk.new ((w1.alloc (Obj.map #[] 0)).alloc (Obj.map #[] 0)) 102 (npC a s sm bm (.slice none 0 0))
      rw [hP]
      simpa using this
    · rw [hsm]; exact ((PM.made w1).alloc _).alloc _
    · have := (PM.made (w1.alloc (Obj.map #[] 0))).alloc (Obj.cells (npC a s sm bm (.slice none 0 0)) 102)
      rw [show (w1.alloc (Obj.map #[] 0)).heap.size = bm from by rw [hbm]; simp] at this
      exact this)
  unfold npC at HI0
  have hPs : Hid (w1.heap.size ≤ P ∧ sm ≠ bm ∧ w1.heap.size ≤ sm ∧ w1.heap.size ≤ bm) := Lib.hid (by omega)
  rw [← hP, ← hbm, ← hsm]
  have hrow : ∃ g, A = some ⟨g, 0, none⟩ ∧ ∃ cur, Blk w1 g 3 cur ∧ k ≤ cp ∧ cp ≤ 9223372036854775807 ∧ ∀ i, i < k → cur[i]? = some (.int .i64 ((d.height + i * c : Nat) : Int)) := by
    rcases HO1.out.2 with ⟨_, h0⟩ | ⟨g, cap, cur, e, _, hg, h3, h4, h5, h6⟩
    · omega
    · injection e with e1 e2 e3
      subst e1; subst e3
      refine ⟨g, rfl, cur, hg, h3, h4, fun i hi => ?_⟩
      have : (TR d.height c k)[i]? = some (I64 (d.height + i * c)) := by simp [TR, hi]
      rw [← h6, List.getElem?_take_of_lt (by omega)] at this
      simpa [I64] using this
  obtain ⟨g, rfl, cur, hbg, hcp1, hcp2, hcells⟩ := hrow
  have HBg := Lib.hid hbg
  have HCl := Lib.hid hcells
  clear hP hbm hsm hbg hcells
  go_loopw [44] (fun v44 wr => ∃ (i : Nat) (v : Value), i ≤ k ∧ v44 = .int .i64 i ∧ Hid (NwI P sm bm a s d.height c i w1 wr v)) (fun v44 _ => k - (intOf v44).toNat)
  case atStart => exact ⟨0, _, Nat.zero_le _, rfl, HI0⟩
  case round =>
    obtain ⟨i, v, hi, rfl, HI⟩ := hrel
    by_cases hlt : i < k
    · obtain ⟨A2, cp2, rfl⟩ := own_slice6 HI.out.own
      have r0 : wr.cell? ⟨g, i, none⟩ = some (.int .i64 ((d.height + i * c : Nat) : Int)) := by rw [(HBg.out.fr HI.out.fr (fun q => q)).cell]; exact HCl.out i hlt
      have c2 : wr.cell? ⟨P, 2, none⟩ = some (.slice A2 i cp2) := HI.out.blk.cell 2
      have hp2 := HPl.out i hlt
      obtain ⟨p, hp⟩ : ∃ p, p = d.height + i * c := ⟨_, rfl⟩
      rw [← hp] at r0 hp2
      have HPp := Lib.hid hp
      have hsz1 : Hid (w1.heap.size ≤ wr.heap.size) := Lib.hid HI.out.fr.size
      clear hp
      go_wp2_with (at_builtin
                   go_loud (refine wpList_append_own _ rfl (.tmp 52) (.tmp 55) 100 rfl w1.heap.size 106 i0 _ 6 32 Try.underlying100 hii hz0 hz1 hz2 rfl (by decide) (.slice A2 i cp2) i (FC d.height c i) rfl (HI.out.own.alloc _) ⟨wr.heap.size, 0, none⟩ 1 1 (FC1 p) rfl rfl (Blk.src (Blk.new _ _ _)) (FC1_one p) (by unfold maxLen; omega) (by omega) (by have := hsz1.out; simp; omega) ?_)
                   intro v' w4 hown4 hgrow4 _
                   obtain ⟨A4, cp4, rfl⟩ := own_slice6 hown4
                   have HI4 := Lib.hid (HI.out.next hPs.out.1 _ (by rw [← HPp.out]; exact hown4) hgrow4)
                   have hm4 := HI.out.mid _ hgrow4
                   have c24 : w4.cell? ⟨P, 2, none⟩ = some (.slice A2 i cp2) := hm4.cell 2
                   have z24 : w4.frozen? ⟨P, 2, none⟩ = false := hm4.frozen 2
                   clear hown4 hgrow4 hm4)
      go_roundw
      case rel => exact ⟨i + 1, .slice A4 (i + 1) cp4, by omega, by go_num, HI4⟩
      case measure => simp [intOf]; omega
    · obtain rfl : i = k := by omega
      go_wp2
      go_ret2
      have hI := HI.out
      have ho := hI.own
      have hFw : Fr (arb a bb rm gm) w wr := HT1.out.fr.trans (hI.fr.more (fun _ q => q.elim))
      have hsw : Sto wr s m sd := HSt.out.fr hFw (fun q hq => HDS.out q hq)
      have hml : m < w.heap.size := HSt.out.mlt (.inr (.inl rfl))
      have hs1 := HT1.out.fr.size
      have hPs' := hPs.out
      obtain ⟨fb, cap, ev, hlay⟩ := nw_lay (h := d.height) (c := c) hk1 hk2 hI.blk (own_zero6 ho) hI.sms hI.bms hsw HN.out HF.out hPs'.2.1 (by omega) (by omega)
      refine ⟨⟨P, fb, cap, sm, bm, s, m, a⟩, d1, rfl, rfl, rfl, rfl, hlay, HT1.out.more hI.fr (fun q hq => hq.elim), by show w.heap.size ≤ P; omega, ?_, by show w.heap.size ≤ sm; omega, by show w.heap.size ≤ bm; omega⟩
      rcases ho.2 with ⟨_, h0⟩ | ⟨g', cap', cur', e, hg0, _⟩
      · omega
      · rw [ev] at e
        injection e with e1 e2 e3
        injection e1 with e1
        injection e1 with e1
        show w.heap.size ≤ fb
        omega
end Go.Proofs.Ytlnffcledpccjaa
