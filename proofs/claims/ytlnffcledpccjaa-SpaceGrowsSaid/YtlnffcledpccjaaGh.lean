/-
  pager.Pager.round; slices.IndexFunc at a pager's frames; vacant.
-/
import Derived.Test.YtlnffcledpccjaaGg
namespace Go.Proofs.Ytlnffcledpccjaa
open Go.RowKit
set_option linter.unusedVariables false
set_option linter.unusedSimpArgs false
/-- how many of the first n frames are touched, read off the world -/
def tcW (w : World) (fb n : Nat) : Nat := ((List.range n).filter fun i => match w.cell? ⟨fb, i * 6 + 4, none⟩ with | some (.bool true) => true | _ => false).length
def tcF (f : Nat → Bool) : Nat → Nat
  | 0 => 0
  | n + 1 => tcF f n + if f n then 1 else 0
theorem tcF_set {f : Nat → Bool} {i : Nat} (h : f i = true) : ∀ n, i < n → tcF (setB f i false) n + 1 = tcF f n
  | 0, hi => by omega
  | n + 1, hi => by
    unfold tcF
    by_cases e : i = n
    · subst e
      have : ∀ m, m ≤ i → tcF (setB f i false) m = tcF f m := by
        intro m hm
        induction m with
        | zero => rfl
        | succ m ih => unfold tcF; rw [ih (by omega)]; simp [setB, show ¬ m = i from by omega]
      rw [this i (Nat.le_refl _)]
      simp [setB, h]
    · have := tcF_set h n (by omega)
      have e' : ¬ n = i := fun q => e q.symm
      simp only [setB, if_neg e']
      omega
theorem tc_lay {w : World} {A : Pa} {d : Pd} (h : Lay w A d) : tcW w A.fb d.n = tcF d.th d.n := by
  have : ∀ n, n ≤ d.n → tcW w A.fb n = tcF d.th n := by
    intro n
    induction n with
    | zero => intro _; rfl
    | succ n ih =>
      intro hn
      have hc : w.cell? ⟨A.fb, n * 6 + 4, none⟩ = some (.bool (d.th n)) := h.fcell (by omega) 4 rfl
      unfold tcF
      rw [← ih (by omega)]
      unfold tcW
      rw [List.range_succ, List.filter_append, List.length_append]
      congr 1
      cases hb : d.th n with
      | true => rw [hb] at hc; simp [hc]
      | false => rw [hb] at hc; simp [hc]
  exact this _ (Nat.le_refl _)
theorem PI.thhand {d : Pd} {mem : List Nat} {C : Nat × Nat → List Nat} {W : List (Nat × Nat)} {E : Nat × Nat → Prop} (h : PI d mem C W E) (th : Nat → Bool) (hand : Nat) : PI { d with th := th, hand := hand } mem C W E :=
  ⟨h.rin, h.rap, h.st, h.sm, h.len, h.cont, h.bin, h.inj, h.cb, h.cz, h.cl, h.wb, h.wc, h.un⟩
def RdPost (A : Pa) (d : Pd) (w : World) (e : Ending) (w' : World) : Prop :=
  ∃ (j : Nat) (th : Nat → Bool) (hand : Nat), j < d.n ∧ e = .returned (.int .i64 j) ∧ Lay w' A { d with th := th, hand := hand } ∧ Fr (fun k => k = A.p ∨ k = A.fb) w w'
set_option maxHeartbeats 1000000 in
set_option maxRecDepth 100000 in
theorem round_ok {w : World} {A : Pa} {d : Pd} (h : Lay w A d) : Calls Try.prog 103 #[.pointer (some ⟨A.p, 0, none⟩)] w (RdPost A d w) := by
  have hn1 := h.n1
  have hn2 := h.n2
  have hcap := h.cap1
  have hcap2 : A.cap ≤ 9223372036854775807 := h.cap2
  have H := Lib.hid h
  clear h
  go_enter Try.func103, Try.ntmps103
  go_wp2
  go_loopw [3] (fun v3 wr => ∃ (th : Nat → Bool) (hand : Nat), Hid (Lay wr A { d with th := th, hand := hand }) ∧ Hid (Fr (fun k => k = A.p ∨ k = A.fb) w wr)) (fun _ wr => tcW wr A.fb d.n)
  case atStart => exact ⟨d.th, d.hand, H, Lib.hid (Fr.refl _ _)⟩
  case round =>
    obtain ⟨th, hand, HL, HF⟩ := hrel
    have hh : hand < d.n := HL.out.hd
    have c5 : wr.cell? ⟨A.p, 5, none⟩ = some (.int .i64 hand) := HL.out.blk.cell 5
    have c2 : wr.cell? ⟨A.p, 2, none⟩ = some (.slice (some ⟨A.fb, 0, none⟩) d.n A.cap) := HL.out.blk.cell 2
    have z5 := HL.out.blk.frozen 5
    obtain ⟨h', eh⟩ : ∃ h', h' = (hand + 1) % d.n := ⟨_, rfl⟩
    have hl' : h' < d.n := by rw [eh]; exact Nat.mod_lt _ (by omega)
    have hmod : ((hand : Int) + 1) % (d.n : Int) = (h' : Int) := by rw [eh]; push_cast; rfl
    have HL1 := Lib.hid (HL.out.sethand hl')
    have f4 : (wr.setCell ⟨A.p, 5, none⟩ (.int .i64 h')).cell? ⟨A.fb, hand * 6 + 4, none⟩ = some (.bool (th hand)) := HL1.out.fcell hh 4 rfl
    have c2' : (wr.setCell ⟨A.p, 5, none⟩ (.int .i64 h')).cell? ⟨A.p, 2, none⟩ = some (.slice (some ⟨A.fb, 0, none⟩) d.n A.cap) := HL1.out.blk.cell 2
    have z4 := HL1.out.ffrozen (hand * 6 + 4)
    clear eh
    cases hb : th hand with
    | false =>
      rw [hb] at f4
      clear hb
      go_wp2
      go_ret
      exact ⟨hand, th, h', hh, rfl, HL1.out, HF.out.set_ (p := ⟨A.p, 5, none⟩) (.inl rfl) _⟩
    | true =>
      rw [hb] at f4
      have HB := Lib.hid hb
      clear hb
      go_wp2
      go_roundw
      case rel => exact ⟨setB th hand false, h', Lib.hid (HL1.out.setth hh false), Lib.hid ((HF.out.set_ (p := ⟨A.p, 5, none⟩) (.inl rfl) _).set_ (p := ⟨A.fb, hand * 6 + 4, none⟩) (.inr rfl) _)⟩
      case measure =>
        have e1 := tc_lay HL.out
        have e2 := tc_lay (HL1.out.setth hh false)
        have e3 := tcF_set HB.out d.n hh
        simp only at e1 e2
        rw [e1, e2]
        omega
set_option maxRecDepth 100000 in
theorem cls_ok (r a b : Nat) (tk th ch : Bool) (w : World) : Calls Try.prog 102 #[.agg #[.int .i64 r, .int .i64 a, .int .i64 b, .bool tk, .bool th, .bool ch]] w fun e w' => e = .returned (.bool (!tk)) ∧ Below w.heap.size w w' := by
  go_enter Try.func102, Try.ntmps102
  go_wp2
  go_ret
  exact ⟨rfl, (Below.refl _ _).alloc (Nat.le_refl _) _⟩
def lfree (d : Pd) : Nat → Option Nat
  | 0 => none
  | n + 1 => match lfree d n with | some j => some j | none => if d.tk n then none else some n
theorem lfree_some {d : Pd} : ∀ {n j : Nat}, lfree d n = some j → j < n ∧ d.tk j = false
  | n + 1, j, h => by
    unfold lfree at h
    cases e : lfree d n with
    | some k =>
      rw [e] at h
      have := lfree_some e
      injection h with h
      subst h
      exact ⟨by omega, this.2⟩
    | none =>
      rw [e] at h
      simp only at h
      split at h
      · cases h
      · rename_i ht
        injection h with h
        subst h
        exact ⟨by omega, by simpa using ht⟩
theorem lfree_none {d : Pd} : ∀ {n : Nat}, lfree d n = none → ∀ j, j < n → d.tk j = true
  | 0, _, j, hj => by omega
  | n + 1, h, j, hj => by
    unfold lfree at h
    cases e : lfree d n with
    | some k => rw [e] at h; cases h
    | none =>
      rw [e] at h
      simp only at h
      by_cases q : j = n
      · subst q
        cases ht : d.tk j with
        | true => rfl
        | false => rw [ht] at h; simp at h
      · exact lfree_none e j (by omega)
def ixv (d : Pd) : Int := match lfree d d.n with | some j => (j : Int) | none => -1
def IxPost (d : Pd) (w : World) (e : Ending) (w' : World) : Prop := e = .returned (.int .i64 (ixv d)) ∧ Below w.heap.size w w'
theorem ixv_some {d : Pd} {k : Nat} (hk : k < d.n) (hn : lfree d k = none) (ht : d.tk k = false) : ixv d = (k : Int) := by
  have : ∀ n, k < n → lfree d n = some k := by
    intro n
    induction n with
    | zero => intro h; omega
    | succ n ih =>
      intro h
      unfold lfree
      by_cases e : k = n
      · subst e; rw [hn]; simp [ht]
      · rw [ih (by omega)]
  unfold ixv
  rw [this d.n hk]
set_option maxHeartbeats 1000000 in
set_option maxRecDepth 100000 in
theorem index_ok {w : World} {A : Pa} {d : Pd} (h : Lay w A d) : Calls Try.prog 101 #[.slice (some ⟨A.fb, 0, none⟩) d.n A.cap, .func (.func 102) #[] #[]] w (IxPost d w) := by
  have hn1 := h.n1
  have hn2 := h.n2
  have hcap := h.cap1
  have hcap2 : A.cap ≤ 9223372036854775807 := h.cap2
  have H := Lib.hid h
  clear h
  go_enter Try.func101, Try.ntmps101
  go_wp2
  go_loopw [5, 8] (fun v5 v8 wr => ∃ k : Nat, k ≤ d.n ∧ v8 = .int .i64 k ∧ Hid (lfree d k = none) ∧ Hid (Below w.heap.size w wr)) (fun _ v8 _ => d.n - (intOf v8).toNat)
  case atStart => exact ⟨0, Nat.zero_le _, rfl, Lib.hid rfl, Lib.hid (Below.refl _ _)⟩
  case round =>
    obtain ⟨k, hk, rfl, HN, HB⟩ := hrel
    by_cases hlt : k < d.n
    · have HL := Lib.hid (H.out.below HB.out)
      have g0 : wr.cell? ⟨A.fb, k * 6, none⟩ = some (.int .i64 (d.room k)) := HL.out.fcell hlt 0 rfl
      have g1 : wr.cell? ⟨A.fb, k * 6 + 1, none⟩ = some (.int .i64 (d.pg k).1) := HL.out.fcell hlt 1 rfl
      have g2 : wr.cell? ⟨A.fb, k * 6 + 2, none⟩ = some (.int .i64 (d.pg k).2) := HL.out.fcell hlt 2 rfl
      have g3 : wr.cell? ⟨A.fb, k * 6 + 3, none⟩ = some (.bool (d.tk k)) := HL.out.fcell hlt 3 rfl
      have g4 : wr.cell? ⟨A.fb, k * 6 + 4, none⟩ = some (.bool (d.th k)) := HL.out.fcell hlt 4 rfl
      have g5 : wr.cell? ⟨A.fb, k * 6 + 5, none⟩ = some (.bool (d.ch k)) := HL.out.fcell hlt 5 rfl
      cases ht : d.tk k with
      | true =>
        rw [ht] at g3
        have HT := Lib.hid ht
        clear ht
        go_wp2_with (go_at_call 102; refine (cls_ok _ _ _ true _ _ _).mono ?_; rintro e w2 ⟨rfl, h2⟩; have H2 := Lib.hid h2; clear h2)
        go_roundw
        case rel => exact ⟨k + 1, by omega, by go_num, Lib.hid (by unfold lfree; rw [HN.out]; simp [HT.out]), Lib.hid (HB.out.trans (H2.out.mono HB.out.size))⟩
        case measure => simp [intOf]; omega
      | false =>
        rw [ht] at g3
        have HT := Lib.hid ht
        clear ht
        go_wp2_with (go_at_call 102; refine (cls_ok _ _ _ false _ _ _).mono ?_; rintro e w2 ⟨rfl, h2⟩; have H2 := Lib.hid h2; clear h2)
        go_ret
        exact ⟨ret_int (ixv_some hlt HN.out HT.out).symm, HB.out.trans (H2.out.mono HB.out.size)⟩
    · obtain rfl : k = d.n := by omega
      go_wp2
      go_ret
      exact ⟨ret_int (by unfold ixv; rw [HN.out]), HB.out⟩
/-- what is done with a pager leaves it one -/
structure Mv (A : Pa) (d d' : Pd) (mem' : List Nat) (C' : Nat × Nat → List Nat) (W : List (Nat × Nat)) (N : Nat) (w w' : World) : Prop where
  lay : Lay w' A d'
  pi : PI d' mem' C' W (fun _ => False)
  n : d'.n = d.n
  room : d'.room = d.room
  size : d'.sd.size = d.sd.size
  cap : d'.sd.cap = d.sd.cap
  ops : d'.sd.ops ≤ d.sd.ops + N
  fr : Fr (foot A d) w w'
  ft : ∀ k, foot A d' k → foot A d k ∨ w.heap.size ≤ k
  chg : ∀ k, d'.ch k = true → d.ch k = true ∧ d'.pg k = d.pg k
theorem Mv.trans {A : Pa} {d d1 d2 : Pd} {mem1 mem2 : List Nat} {C1 C2 : Nat × Nat → List Nat} {W1 W2 : List (Nat × Nat)} {N1 N2 : Nat} {w w1 w2 : World} (h : Mv A d d1 mem1 C1 W1 N1 w w1) (k : Mv A d1 d2 mem2 C2 W2 N2 w1 w2) : Mv A d d2 mem2 C2 W2 (N1 + N2) w w2 :=
  ⟨k.lay, k.pi, k.n.trans h.n, k.room.trans h.room, k.size.trans h.size, k.cap.trans h.cap, by have := h.ops; have := k.ops; omega, h.fr.trans_new k.fr (fun i hi => h.ft i hi), fun i hi => by
    rcases k.ft i hi with q | q
    · exact h.ft i q
    · exact .inr (Nat.le_trans h.fr.size q), fun i hi => by
    obtain ⟨a1, a2⟩ := k.chg i hi
    obtain ⟨b1, b2⟩ := h.chg i a1
    exact ⟨b1, a2.trans b2⟩⟩
theorem Mv.still {A : Pa} {d : Pd} {mem : List Nat} {C : Nat × Nat → List Nat} {W : List (Nat × Nat)} {w w' : World} (h : Lay w A d) (hp : PI d mem C W (fun _ => False)) (hf : Fr (fun _ => False) w w') : Mv A d d mem C W 0 w w' :=
  ⟨h.fr hf (fun _ _ q => q), hp, rfl, rfl, rfl, rfl, Nat.le_refl _, hf.more (fun _ q => q.elim), fun k hk => .inl hk, fun _ q => ⟨q, rfl⟩⟩
theorem Svd.mv {A : Pa} {d d' : Pd} {mem : List Nat} {C : Nat × Nat → List Nat} {W : List (Nat × Nat)} {i : Nat} {w w' : World} (h : Svd A d d' mem C W i w w') : Mv A d d' mem C W 2 w w' :=
  ⟨h.lay, h.pi, h.n, h.room, h.size, h.cap, h.ops, h.fr, h.ft, fun i q => ⟨h.chg i q, by rw [h.pg]⟩⟩
theorem vac_chg {d : Pd} {j i : Nat} (q : (d.vac j).ch i = true) : d.ch i = true ∧ (d.vac j).pg i = d.pg i := by
  by_cases e : i = j
  · simp [Pd.vac, setB, e] at q
  · refine ⟨by simpa [Pd.vac, setB, e] using q, by simp [Pd.vac, e]⟩
def VtPost (A : Pa) (d : Pd) (mem : List Nat) (C : Nat × Nat → List Nat) (W : List (Nat × Nat)) (w : World) (e : Ending) (w' : World) : Prop :=
  ∃ (j : Nat) (d' : Pd), j < d.n ∧ e = .returned (.tuple #[.int .i64 j, .int .i64 0]) ∧ Mv A d d' mem C W 2 w w' ∧ d'.tk j = false ∧ ∀ x, d.st x = none → d'.st x = none
set_option maxHeartbeats 2000000 in
set_option maxRecDepth 100000 in
theorem vacant_ok {w : World} {A : Pa} {d : Pd} {C : Nat × Nat → List Nat} {W : List (Nat × Nat)} {bb rm gm : Nat} {ad : Ad} (h : Lay w A d) (ha : Are w A.a bb rm gm ad) (hdis : ∀ k, ad.mine A.a bb rm gm k → ¬ foot A d k) (hp : PI d ad.mem C W (fun _ => False)) (ho : d.sd.ops < 900000) (hW : W.length ≤ d.sd.cap) :
    Calls Try.prog 86 #[.pointer (some ⟨A.p, 0, none⟩)] w (VtPost A d ad.mem C W w) := by
  have c2 : w.cell? ⟨A.p, 2, none⟩ = some (.slice (some ⟨A.fb, 0, none⟩) d.n A.cap) := h.blk.cell 2
  have hn2 := h.n2
  have HI := Lib.hid (index_ok h)
  unfold IxPost at HI
  have H := Lib.hid h
  have HA := Lib.hid ha
  have HP := Lib.hid hp
  have HD := Lib.hid hdis
  cases hf : lfree d d.n with
  | some j =>
    have hx : ixv d = (j : Int) := by unfold ixv; rw [hf]
    rw [hx] at HI
    have HF := Lib.hid (lfree_some hf)
    have hj := (lfree_some hf).1
    clear h ha hp hdis hf hx
    go_enter Try.func86, Try.ntmps86
    go_wp2_with (go_at_call 101; refine HI.out.mono ?_; rintro e w1 ⟨rfl, h1⟩; have H1 := Lib.hid h1; clear h1)
    go_ret2
    have hm := Mv.still H.out HP.out (Fr.of_below (S := fun _ => False) H1.out)
    exact ⟨j, d, hj, rfl, ⟨hm.lay, hm.pi, hm.n, hm.room, hm.size, hm.cap, Nat.le_add_right _ _, hm.fr, hm.ft, hm.chg⟩, HF.out.2, fun x hx => hx⟩
  | none =>
    have hx : ixv d = -1 := by unfold ixv; rw [hf]
    rw [hx] at HI
    have HF := Lib.hid (lfree_none hf)
    clear h ha hp hdis hf hx
    go_enter Try.func86, Try.ntmps86
    go_wp2_with (first
      | (go_at_call 101; refine HI.out.mono ?_; rintro e w1 ⟨rfl, h1⟩; have H1 := Lib.hid h1; have HL1 := Lib.hid (H.out.below h1); clear h1)
      | (go_at_call 103
         refine (round_ok HL1.out).mono ?_
         rintro e w2 ⟨j, th, hand, hj, rfl, h2, f2⟩
         have HL2 := Lib.hid h2
         have HF2 := Lib.hid f2
         have HP2 := Lib.hid (HP.out.thhand th hand)
         have HA2 : Hid (Are w2 A.a bb rm gm ad) := Lib.hid ((HA.out.below H1.out (Nat.le_refl _)).fr f2 (fun k hk q => HD.out k hk (by rcases q with q | q; exact .inl q; exact .inr (.inl q))))
         clear h2 f2)
      | (go_at_call 47
         refine (save_yes HL2.out HA2.out HP2.out j hj (HF.out j hj) ho hW).mono ?_
         rintro e w3 ⟨rfl, d3, hs⟩
         have HS := Lib.hid hs
         clear hs)
      | (go_at_call 46
         refine (vacate_ok HS.out.lay j (by rw [HS.out.n]; exact hj) (HS.out.pi.sm j (by rw [HS.out.n]; exact hj))).mono ?_
         rintro e w4 ⟨rfl, h4, f4⟩
         have HL4 := Lib.hid h4
         have HF4 := Lib.hid f4
         clear h4 f4))
    go_ret2
    have ht : d.tk j = true := HF.out j hj
    have hs := HS.out
    have ht3 : d3.tk j = true := by rw [hs.tk]; exact ht
    have hj3 : j < d3.n := by rw [hs.n]; exact hj
    have hpg3 : d3.pg j = d.pg j := by rw [hs.pg]
    have hpi4 : PI (d3.vac j) ad.mem C W (fun _ => False) := hs.pi.vac hj3 ht3 (fun _ => by rw [hpg3, hs.size]; exact hs.saved ht)
    have m12 : Mv A d { d with th := th, hand := hand } ad.mem C W 0 w w2 := ⟨HL2.out, HP2.out, rfl, rfl, rfl, rfl, Nat.le_refl _, (Fr.of_below H1.out).trans (HF2.out.more (fun k hk => by rcases hk with q | q; exact .inl q; exact .inr (.inl q))), fun k hk => .inl hk, fun _ q => ⟨q, rfl⟩⟩
    have m34 : Mv A d3 (d3.vac j) ad.mem C W 0 w3 w4 := ⟨HL4.out, hpi4, rfl, rfl, rfl, rfl, Nat.le_refl _, HF4.out.more (fun k hk => by rcases hk with q | q; exact .inr (.inr (.inl q)); exact .inr (.inl q)), fun k hk => .inl hk, fun i q => vac_chg q⟩
    have hm := (m12.trans hs.mv).trans m34
    refine ⟨j, d3.vac j, hj, rfl, hm, by simp [Pd.vac, setB], fun x hx => ?_⟩
    show upd d3.st (d3.pg j) none x = none
    have : d3.st x = none := by rw [hs.st]; exact hx
    by_cases e : x = d3.pg j
    · rw [e, upd_same]
    · rw [upd_other _ _ _ e]; exact this
end Go.Proofs.Ytlnffcledpccjaa
