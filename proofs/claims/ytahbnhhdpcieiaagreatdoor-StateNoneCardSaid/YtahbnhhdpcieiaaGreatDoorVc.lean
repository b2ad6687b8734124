/-
  A pager, as the laws make it: that it is made, and nothing that was there is touched.
-/
import Derived.Test.YtahbnhhdpcieiaaGreatDoorVb
namespace Go.Proofs.YtahbnhhdpcieiaaGreatDoor
open Go.ChangeShapes Go.WideShapes Go.ChangeAt Go.RowKit
set_option linter.unusedVariables false
set_option linter.unusedSimpArgs false
theorem info174 : (Tryz.prog.info? 174).map (fun i => (i.zero, i.size, i.bytes)) = some (some (.agg #[.int .i64 0, .int .i64 0, .int .i64 0, .bool false, .bool false, .bool false]), 6, 32) := by kernel_rfl
def FC1 (p : Nat) : List Value := [.int .i64 (p : Nat), .int .i64 0, .int .i64 0, .bool false, .bool false, .bool false]
theorem FC1_one (p : Nat) : ∀ v ∈ FC1 p, v.oneCell' = true := by
  intro v hv
  simp only [FC1, List.mem_cons, List.not_mem_nil, or_false] at hv
  rcases hv with rfl | rfl | rfl | rfl | rfl | rfl <;> rfl
theorem own_slice6 {base : Nat} {w : World} {v : Value} {n : Nat} {xs : List Value} (h : w.ownsRow base 174 6 v n xs) : ∃ A cp, v = .slice A n cp := by
  rcases h.2 with ⟨e, h0⟩ | ⟨g, cap, cur, e, _⟩
  · subst h0; exact ⟨_, _, e⟩
  · exact ⟨_, _, e⟩
theorem own_same6 {base : Nat} {w w' : World} {v : Value} {n : Nat} {xs : List Value} (h : w.ownsRow base 174 6 v n xs) (hb : ∀ q, v.ownBlock = some q → w'.heap[q]? = w.heap[q]?) : w'.ownsRow base 174 6 v n xs := by
  refine ⟨h.1, ?_⟩
  rcases h.2 with h0 | ⟨g, cap, cur, e, h1, hg, h2⟩
  · exact .inl h0
  · exact .inr ⟨g, cap, cur, e, h1, (hb g (by rw [e]; rfl)).trans hg, h2⟩
def npC (a s sm bm : Nat) (v : Value) : Array Value := #[.pointer (some ⟨a, 0, none⟩), .pointer (some ⟨s, 0, none⟩), v, .map (some sm), .map (some bm), .int .i64 0, .int .i64 0]
/-- the loop of New: so many frames are there -/
structure NwI (P sm bm a s : Nat) (i : Nat) (w1 wr : World) (v : Value) : Prop where
  blk : Blk wr P 170 (npC a s sm bm v)
  own : ∃ L, wr.ownsRow w1.heap.size 174 6 v i L
  fr : Fr (fun _ => False) w1 wr
theorem NwI.mid {P sm bm a s i : Nat} {w1 wr w4 : World} {v : Value} {L : List Value} (hI : NwI P sm bm a s i w1 wr v) (hL : wr.ownsRow w1.heap.size 174 6 v i L) (o : Obj) (hgr : (wr.alloc o).grownBy w4 v.ownBlock) : Blk w4 P 170 (npC a s sm bm v) := by
  have f4 : Fr (fun q => v.ownBlock = some q) wr w4 := ((Fr.refl _ wr).alloc _).trans (Fr.grownV hgr)
  refine hI.blk.fr f4 (fun hq => ?_)
  rcases hL.2 with ⟨e, _⟩ | ⟨g, cp, cur, e, hg0, hg, _⟩
  · rw [e] at hq; cases hq
  · rw [e] at hq
    injection hq with hq
    subst hq
    have hg' : Blk wr g 174 cur := hg
    exact hg'.ne_ hI.blk (by decide) rfl
theorem NwI.next {P sm bm a s i : Nat} {w1 wr w4 : World} {v v' : Value} {L L' : List Value} (hI : NwI P sm bm a s i w1 wr v) (hL : wr.ownsRow w1.heap.size 174 6 v i L) (hP : w1.heap.size ≤ P) (o : Obj) (hown : w4.ownsRow w1.heap.size 174 6 v' (i + 1) L') (hgr : (wr.alloc o).grownBy w4 v.ownBlock) :
    NwI P sm bm a s (i + 1) w1 (w4.setCell ⟨P, 2, none⟩ v') v' := by
  have hne : ∀ q, v.ownBlock = some q → q ≠ P ∧ w1.heap.size ≤ q := fun q hq => by
    rcases hL.2 with ⟨e, _⟩ | ⟨g, cp, cur, e, hg0, hg, _⟩
    · rw [e] at hq; cases hq
    · rw [e] at hq
      injection hq with hq
      subst hq
      have hg' : Blk wr g 174 cur := hg
      exact ⟨hg'.ne_ hI.blk (by decide), hg0⟩
  have f4 : Fr (fun q => v.ownBlock = some q) wr w4 := ((Fr.refl _ wr).alloc _).trans (Fr.grownV hgr)
  have hb4 : Blk w4 P 170 (npC a s sm bm v) := hI.blk.fr f4 (fun q => (hne _ q).1 rfl)
  have f5 : Fr (· = P) w4 (w4.setCell ⟨P, 2, none⟩ v') := (Fr.refl (· = P) w4).set_ (p := ⟨P, 2, none⟩) rfl _
  refine ⟨hb4.set_ 2 _, ⟨L', ?_⟩, ?_⟩
  · refine own_same6 hown (fun q hq => ?_)
    rcases hown.2 with ⟨e, _⟩ | ⟨g, cp, cur, e, hg0, hg, _⟩
    · rw [e] at hq; cases hq
    · rw [e] at hq
      injection hq with hq
      subst hq
      have hg' : Blk w4 g 174 cur := hg
      exact f5.block _ hg'.lt (hg'.ne_ hb4 (by decide))
  · exact (hI.fr.trans_new f4 (fun q hq => .inr (hne q hq).2)).trans_new f5 (fun q hq => .inr (by rw [hq]; exact hP))
set_option maxHeartbeats 2000000 in
set_option maxRecDepth 100000 in
theorem PNew_ok {w : World} {a bb rm gm s : Nat} {d : Ad} (h : Are w a bb rm gm d) (hs : w.cell? ⟨s, 0, none⟩ = some (.int .i64 64)) (k : Nat) (hk1 : 1 ≤ k) (hk2 : k ≤ 64) (hG : ∀ q, d.G q = []) (hl : d.live = d.height) (hfit : d.height + k * 64 ≤ d.sz) (ho : d.ops < 900000) :
    Calls Tryz.prog 27 #[.pointer (some ⟨a, 0, none⟩), .pointer (some ⟨s, 0, none⟩), .int .i64 k] w fun e w' => ∃ p, e = .returned (.tuple #[.pointer (some ⟨p, 0, none⟩), .int .i64 0]) ∧ w.heap.size ≤ p ∧ Fr (arb a bb rm gm) w w' := by
  obtain ⟨i0, hii, hz0, hz1, hz2⟩ := info_parts info174
  have HT := Lib.hid (take_ok h 64 64 k (by omega) (by decide) hk1 hk2 hG hl hfit ho)
  unfold TkPost at HT
  have HS := Lib.hid (SSize_any s 64 w hs)
  have hlim := h.lim
  have hmm := @run_makeMap Tryz.prog
  have hplace : ∀ i, i < k → d.height + i * 64 ≤ 4194304 := fun i hi => by omega
  have HPl := Lib.hid hplace
  clear h hs hG hl hfit hplace
  go_enter Tryz.func27, Tryz.ntmps27
  go_wp2_with (first
    | (go_at_call 62; refine HS.out.mono ?_; rintro e w1 ⟨rfl, rfl⟩)
    | (go_at_call 61
       refine HT.out.mono ?_
       rintro e w1 ⟨A, cp, d1, rfl, ho1, ht1⟩
       have HO1 := Lib.hid ho1
       have HT1 := Lib.hid ht1
       clear ho1 ht1))
  clear hmm
  obtain ⟨P, hP⟩ : ∃ P, P = w1.heap.size + 1 + 1 := ⟨_, rfl⟩
  obtain ⟨bm, hbm⟩ : ∃ bm, bm = w1.heap.size + 1 := ⟨_, rfl⟩
  obtain ⟨sm, hsm⟩ : ∃ sm, sm = w1.heap.size := ⟨_, rfl⟩
  have HI0 : Hid (NwI P sm bm a s 0 w1 (((w1.alloc (Obj.map #[] 0)).alloc (Obj.map #[] 0)).alloc (Obj.cells (npC a s sm bm (.slice none 0 0)) 170)) (.slice none 0 0)) := Lib.hid (by
    refine ⟨?_, ⟨_, World.ownsRow_nil _ _ 174 6⟩, ((((Fr.refl _ w1).alloc _).alloc _).alloc _)⟩
    have := Blk.new ((w1.alloc (Obj.map #[] 0)).alloc (Obj.map #[] 0)) 170 (npC a s sm bm (.slice none 0 0))
    rw [hP]
    simpa using this)
  unfold npC at HI0
  have hPs : Hid (w1.heap.size ≤ P) := Lib.hid (by omega)
  rw [← hP, ← hbm, ← hsm]
  have hrow : ∃ g, A = some ⟨g, 0, none⟩ ∧ ∃ cur, Blk w1 g 3 cur ∧ k ≤ cp ∧ cp ≤ 9223372036854775807 ∧ ∀ i, i < k → cur[i]? = some (.int .i64 ((d.height + i * 64 : Nat) : Int)) := by
    rcases HO1.out.2 with ⟨_, h0⟩ | ⟨g, cap, cur, e, _, hg, h3, h4, h5, h6⟩
    · omega
    · injection e with e1 e2 e3
      subst e1; subst e3
      refine ⟨g, rfl, cur, hg, h3, h4, fun i hi => ?_⟩
      have : (TR d.height 64 k)[i]? = some (I64 (d.height + i * 64)) := by simp [TR, hi]
      rw [← h6, List.getElem?_take_of_lt (by omega)] at this
      simpa [I64] using this
  obtain ⟨g, rfl, cur, hbg, hcp1, hcp2, hcells⟩ := hrow
  have HBg := Lib.hid hbg
  have HCl := Lib.hid hcells
  clear hP hbm hsm hbg hcells
  go_loopw [44] (fun v44 wr => ∃ (i : Nat) (v : Value), i ≤ k ∧ v44 = .int .i64 i ∧ Hid (NwI P sm bm a s i w1 wr v)) (fun v44 _ => k - (intOf v44).toNat)
  case atStart => exact ⟨0, _, Nat.zero_le _, rfl, HI0⟩
  case round =>
    obtain ⟨i, v, hi, rfl, HI⟩ := hrel
    by_cases hlt : i < k
    · obtain ⟨L, hL⟩ := HI.out.own
      obtain ⟨A2, cp2, rfl⟩ := own_slice6 hL
      have HL := Lib.hid hL
      clear hL
      have r0 : wr.cell? ⟨g, i, none⟩ = some (.int .i64 ((d.height + i * 64 : Nat) : Int)) := by rw [(HBg.out.fr HI.out.fr (fun q => q)).cell]; exact HCl.out i hlt
      have c2 : wr.cell? ⟨P, 2, none⟩ = some (.slice A2 i cp2) := HI.out.blk.cell 2
      have hp2 := HPl.out i hlt
      obtain ⟨p, hp⟩ : ∃ p, p = d.height + i * 64 := ⟨_, rfl⟩
      rw [← hp] at r0 hp2
      have hsz1 : Hid (w1.heap.size ≤ wr.heap.size) := Lib.hid HI.out.fr.size
      clear hp
      go_wp2_with (at_builtin
                   go_loud (refine wpList_append_own _ rfl (.tmp 52) (.tmp 55) 168 rfl w1.heap.size 174 i0 _ 6 32 Tryz.underlying168 hii hz0 hz1 hz2 rfl (by decide) (.slice A2 i cp2) i L rfl (HL.out.alloc _) ⟨wr.heap.size, 0, none⟩ 1 1 (FC1 p) rfl rfl (Blk.src (Blk.new _ _ _)) (FC1_one p) (by unfold maxLen; omega) (by omega) (by have := hsz1.out; simp; omega) ?_)
                   intro v' w4 hown4 hgrow4 _
                   obtain ⟨A4, cp4, rfl⟩ := own_slice6 hown4
                   have HI4 := Lib.hid (HI.out.next HL.out hPs.out _ hown4 hgrow4)
                   have hm4 := HI.out.mid HL.out _ hgrow4
                   have c24 : w4.cell? ⟨P, 2, none⟩ = some (.slice A2 i cp2) := hm4.cell 2
                   have z24 : w4.frozen? ⟨P, 2, none⟩ = false := hm4.frozen 2
                   clear hown4 hgrow4 hm4)
      go_roundw
      case rel => exact ⟨i + 1, .slice A4 (i + 1) cp4, by omega, by go_num, HI4⟩
      case measure => simp [intOf]; omega
    · obtain rfl : i = k := by omega
      go_wp2
      go_ret2
      have hFw : Fr (arb a bb rm gm) w wr := HT1.out.fr.trans (HI.out.fr.more (fun _ q => q.elim))
      have hs1 := HT1.out.fr.size
      have hPs' := hPs.out
      exact ⟨P, rfl, by omega, hFw⟩
set_option maxHeartbeats 1000000 in
set_option maxRecDepth 100000 in
theorem Pager_n (f : Int) (n : Nat) (hn : (n : Int) = 1 + (if f ≤ 0 then 0 else if 63 ≤ f then 63 else f)) (w : World) :
    Calls Tryz.prog 13 #[.int .i64 f] w fun e w' => ∃ p, e = .returned (.pointer (some ⟨p, 0, none⟩)) ∧ w.heap.size ≤ p ∧ Below w.heap.size w w' := by
  have hn1 : 1 ≤ n := by omega
  have hn64 : n ≤ 64 := by omega
  have HN0 := Lib.hid hn
  clear hn
  go_enter Tryz.func13, Tryz.ntmps13
  go_wp2_with fail
  refine (ANew_ok 65536 _ (by omega)).mono ?_
  rintro e w2 ⟨a, bb, rm, gm, rfl, h2, b2, ha2, hbb, hr, hg⟩
  have H2 := Lib.hid h2
  have B2 := Lib.hid b2
  have HA := Lib.hid (show w.heap.size ≤ a ∧ w.heap.size ≤ bb ∧ w.heap.size ≤ rm ∧ w.heap.size ≤ gm from by omega)
  clear h2 b2 ha2 hbb hr hg
  go_wp2_with fail
  refine (SNew_64 w2).mono ?_
  rintro e w3 ⟨rfl, b3, hs3, hc3⟩
  have HN := Lib.hid (fun (x : Int) (e : x = n) => (show Calls Tryz.prog 27 #[.pointer (some ⟨a, 0, none⟩), .pointer (some ⟨w2.heap.size + 1, 0, none⟩), .int .i64 x] w3 _ from e ▸ (PNew_ok (H2.out.below b3 (Nat.le_refl _)) hc3 n hn1 hn64 (fun _ => rfl) rfl (by show 0 + n * 64 ≤ 65536; omega) (by show 0 < 900000; omega))))
  have B3 := Lib.hid (B2.out.trans (b3.mono B2.out.size))
  clear b3 hc3 hs3
  go_wp2_with fail
  all_goals
    refine (HN.out _ (by have e := HN0.out; omega)).mono ?_
    rintro e w4 ⟨p, rfl, hp, hF⟩
    have HF := Lib.hid (And.intro hp hF)
    clear hp hF
    go_wp2_with fail
    go_ret
    have h3 := B3.out.size
    have hA := HA.out
    exact ⟨p, rfl, by have := HF.out.1; omega, HF.out.2.below B3.out h3 (fun k hk => by rcases hk with q | q | q | q <;> omega)⟩
end Go.Proofs.YtahbnhhdpcieiaaGreatDoor
