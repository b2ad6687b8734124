/-
  kept: the pages of a memory that have blocks, in a row (order is left open: a sort that permutes is taken as given).
-/
import Derived.Test.YtlnffcledpccjaaDb
import Derived.Maps.RangeWalk
import Derived.WalkKit
import Derived.ProofKit
import Derived.OpenShut
import Derived.ShutString
import Derived.ChangeOld
import Derived.Below
namespace Go.Proofs.Ytlnffcledpccjaa
set_option linter.unusedVariables false
set_option linter.unusedSimpArgs false
open Go.RowKit
theorem info104 : (Try.prog.info? 104).map (fun i => (i.zero, i.size, i.bytes)) = some (some (.agg #[.int .i64 0, .int .i64 0]), 2, 16) := by kernel_rfl
theorem encPg_one (p : Nat × Nat) : ∀ v ∈ encPg p, v.oneCell' = true := by
  intro v hv
  simp [encPg] at hv
  rcases hv with rfl | rfl <;> rfl
theorem encs_len : ∀ L : List (Nat × Nat), (L.flatMap encPg).length = L.length * 2
  | [] => rfl
  | x :: L => by rw [List.flatMap_cons, List.length_append, encs_len L]; simp [encPg]; omega
theorem ranges_same {w w' : World} {b r n : Nat} {D : DataW Value} {left : Lit → Bool} {cnt : Nat} (h : w.ranges Try.prog 104 asis b r n D left cnt) (hb : w'.heap[b]? = w.heap[b]?) (hr : w'.heap[r]? = w.heap[r]?) : w'.ranges Try.prog 104 asis b r n D left cnt := by
  obtain ⟨es, clock, since, seen, c0, h1, h2, h3, h4, h5, h6⟩ := h
  exact ⟨es, clock, since, seen, c0, hb.trans h1, h2, h3, h4, hr.trans h5, h6⟩
theorem ranges_lt {w : World} {b r n : Nat} {D : DataW Value} {left : Lit → Bool} {cnt : Nat} (h : w.ranges Try.prog 104 asis b r n D left cnt) : b < w.heap.size ∧ r < w.heap.size := by
  obtain ⟨es, clock, since, seen, c0, h1, h2, h3, h4, h5, h6⟩ := h
  constructor
  · rcases Nat.lt_or_ge b w.heap.size with q | q
    · exact q
    · rw [Array.getElem?_eq_none q] at h1; cases h1
  · rcases Nat.lt_or_ge r w.heap.size with q | q
    · exact q
    · rw [Array.getElem?_eq_none q] at h5; cases h5
def PgRow (w : World) (v : Value) (M : List (Nat × Nat)) : Prop :=
  (M = [] ∧ v = .slice none 0 0) ∨ ∃ g cap, v = .slice (some ⟨g, 0, none⟩) M.length cap ∧ M.length ≤ cap ∧ cap ≤ maxLen ∧ g < w.heap.size ∧ ∀ i, i < M.length → w.cell? ⟨g, i * 2, none⟩ = some (I64 (M.getD i (0, 0)).1) ∧ w.cell? ⟨g, i * 2 + 1, none⟩ = some (I64 (M.getD i (0, 0)).2)
def SortOk : Prop := ∀ (v : Value) (L : List (Nat × Nat)) (B : Nat) (w : World), L.length ≤ 4096 → w.ownsRow B 104 2 v L.length (L.flatMap encPg) →
  Calls Try.prog 64 #[v, .func (.func 65) #[] #[]] w fun e w' => e = .returned (.tuple #[]) ∧ ∃ M, M.Perm L ∧ PgRow w' v M ∧ Fr (fun q => v.ownBlock = some q) w w'
theorem own_fr2 {B : Nat} {w w' : World} {v : Value} {n : Nat} {xs : List Value} {S : Nat → Prop} (h : w.ownsRow B 104 2 v n xs) (hf : Fr S w w') (hS : ∀ q, S q → B ≤ q → q < w.heap.size → v.ownBlock ≠ some q) : w'.ownsRow B 104 2 v n xs := by
  refine ⟨h.1, ?_⟩
  rcases h.2 with h0 | ⟨g, cap, cur, e, h1, hg, h2⟩
  · exact .inl h0
  · have hlt : g < w.heap.size := by
      rcases Nat.lt_or_ge g w.heap.size with q | q
      · exact q
      · rw [Array.getElem?_eq_none q] at hg; cases hg
    exact .inr ⟨g, cap, cur, e, h1, hf.keep hg (fun q => hS g q h1 hlt (by rw [e]; rfl)), h2⟩
def KptPost (d : Pd) (mem : Nat) (w : World) (e : Ending) (w' : World) : Prop :=
  ∃ v M, e = .returned v ∧ PgRow w' v M ∧ M.Nodup ∧ M.length ≤ 4096 ∧ (∀ x, x ∈ M ↔ d.blk x ≠ none ∧ x.1 = mem) ∧ Fr (fun _ => False) w w' ∧ ∀ q, v.ownBlock = some q → w.heap.size ≤ q
set_option maxHeartbeats 2000000 in
set_option maxRecDepth 100000 in
theorem kept_ok (hso : SortOk) {w : World} {A : Pa} {d : Pd} (h : Lay w A d) (mem : Nat) :
    Calls Try.prog 44 #[.pointer (some ⟨A.p, 0, none⟩), .int .i64 mem] w (KptPost d mem w) := by
  obtain ⟨i0, hii, hz0, hz1, hz2⟩ := info_parts info104
  have c4 : w.cell? ⟨A.p, 4, none⟩ = some (.map (some A.bm)) := h.blk.cell 4
  have hn4 : d.sd.n ≤ 4096 := by have h1 := h.sto.num; have h2 := h.sto.capm; have h3 : cnt d.sd.B d.sd.cap ≤ d.sd.cap := (by unfold cnt; exact Nat.le_trans (List.length_filter_le _ _) (by simp)); omega
  have hbm := h.bls.lt
  have HSM : Hid (∀ x, d.blk x ≠ none → small x) := Lib.hid (fun x hx => h.bls.small hx)
  have HLE : Hid (∀ L : List (Nat × Nat), L.Nodup → (∀ x ∈ L, d.blk x ≠ none) → L.length ≤ 4096) := Lib.hid (by
    obtain ⟨D, K, _, _, _, k1, k2, k3, _⟩ := h.bls
    intro L hL hx
    have := nodup_le L K hL (fun x q => (k3 x).2 (hx x q))
    omega)
  obtain ⟨D, K, hown, hsz, hD0, -, -, -, -⟩ := h.bls
  have HD := Lib.hid (show PMD D d.blk from hD0)
  have HSO := Lib.hid hso
  have HKS := Lib.hid (KI.start hown HD.out HSM.out mem)
  clear h hD0
  go_enter Try.func44, Try.ntmps44
  go_wp2_with (first
    | (at_range; refine wpList_range_own _ rfl _ 99 rfl 104 3 law80 Try.underlying99 asis A.bm d.sd.n D rfl hown ?_; intro w0 hrg0 hg0 hs0)
    | go_in)
  go_frame
  have HF0 : Hid (Fr (fun _ => False) w w0) := Lib.hid ⟨hg0.os, hg0.tape, hg0.output, hg0.size, fun k hk _ => hg0.block k hk (by simp)⟩
  clear hown hg0 c4
  go_loopw [5] (fun u5 wr => ∃ (L : List (Nat × Nat)) (left : Lit → Bool) (cnt : Nat) (v5 : Value), v5 = u5 ∧ wr.ranges Try.prog 104 asis A.bm w.heap.size d.sd.n D left cnt ∧ Hid (KI d.blk mem left L) ∧ Hid (wr.ownsRow (w.heap.size + 1) 104 2 v5 L.length (L.flatMap encPg)) ∧ Hid (Fr (fun _ => False) w wr))
    (fun _ wr => wr.rangeLeft A.bm w.heap.size)
  case atStart => exact ⟨[], _, _, _, rfl, hrg0, HKS, Lib.hid (World.ownsRow_nil w0 _ 104 2), HF0⟩
  case round =>
    obtain ⟨L, left, cnt, v5, rfl, hrg, HK, HO, HF⟩ := hrel
    go_wp2_with (first
      | (at_next; refine wpList_next_ranges _ rfl _ rfl 104 law80 asis (fun x : Int × Int => Value.agg #[.int .i64 x.1, .int .i64 x.2]) id (fun key kl hk => by obtain ⟨x, _, rfl⟩ := keyOf_inv hk; exact ⟨x, rfl⟩) (fun v y _ => ⟨v, rfl⟩) A.bm w.heap.size d.sd.n D left cnt rfl hrg ?_ ?_)
      | go_in)
    · intro hc0 hl0
      have hl4 : L.length ≤ 4096 := HLE.out L HK.out.nd (fun x hx => ((HK.out.it x).1 hx).1)
      have HS := Lib.hid (HSO.out v5 L _ wr hl4 HO.out)
      clear hrg hc0
      have HL0 := Lib.hid hl0
      clear hl0
      go_wp2_with (go_at_call 64
                   refine HS.out.mono ?_
                   rintro e w3 ⟨rfl, M, hp, hr, hf⟩
                   have HP := Lib.hid hp
                   have HRw := Lib.hid hr
                   have HF3 := Lib.hid hf
                   clear hp hr hf)
      go_ret
      refine ⟨v5, M, rfl, HRw.out, HP.out.nodup_iff.2 HK.out.nd, by rw [HP.out.length_eq]; exact hl4, fun x => by rw [HP.out.mem_iff]; exact HK.out.done HL0.out x, HF.out.trans_new HF3.out (fun q hq => .inr (by have := (HO.out.lt q hq).1; omega)), fun q hq => by have := (HO.out.lt q hq).1; omega⟩
    · intro x1 x2 c kl y1 y2 w1 cnt1 hkey hlk hRc hat hrg1 hlt hg1 hs1 hen
      obtain ⟨p, hp, hpe, hkl, hpb⟩ : ∃ p, small p ∧ (x1, x2) = cs2 p ∧ kl = pl (cs2 p) ∧ d.blk p ≠ none := by
        obtain ⟨x', hx', ev⟩ := keyOf_inv hkey
        have e1 := pv_inj (x := (x1, x2)) ev
        have e2 := keyOf_pv hx'
        rw [← e1] at e2 hx'
        have hk' : keyOf Try.prog 104 (pv (x1, x2)) = some kl := hkey
        rw [hk'] at e2
        injection e2 with e2
        obtain ⟨p, hp, ep, hb⟩ := HD.out.came hx' (y := y1) (fun zd => by rw [← e2]; exact hat zd)
        exact ⟨p, hp, ep, by rw [e2, ep], hb⟩
      subst hkl
      obtain ⟨p1, p2⟩ := p
      injection hpe with e1 e2
      subst e1 e2
      have HR1 := Lib.hid hrg1
      have HRG := Lib.hid hrg
      have HLT := Lib.hid hlt
      have HF1 : Hid (Fr (fun _ => False) w w1) := Lib.hid (HF.out.trans_new (Fr.grown hg1) (fun q hq => .inr (by omega)))
      have HS1 := Lib.hid hs1
      have HO1 : Hid (w1.ownsRow (w.heap.size + 1) 104 2 v5 L.length (L.flatMap encPg)) := Lib.hid (own_fr2 HO.out (Fr.grown hg1) (fun q hq e1 _ => by omega))
      clear hkey hRc hat hrg1 hrg hg1 hs1
      obtain ⟨o1, ho1⟩ : ∃ o1, o1 = Obj.cells #[Value.int IntKind.i64 (p1 : Int), Value.int IntKind.i64 (p2 : Int)] 104 := ⟨_, rfl⟩
      have HR2 : Hid ((w1.alloc o1).ranges Try.prog 104 asis A.bm w.heap.size d.sd.n D (fun z => left z && !z.sameKey (pl (cs2 (p1, p2)))) cnt1) := Lib.hid (by
        obtain ⟨l1, l2⟩ := ranges_lt HR1.out
        exact ranges_same HR1.out (Below.heap_alloc w1 _ _ l1) (Below.heap_alloc w1 _ _ l2))
      have HO2 : Hid ((w1.alloc o1).ownsRow (w.heap.size + 1) 104 2 v5 L.length (L.flatMap encPg)) := Lib.hid (HO1.out.alloc _)
      have HF2 : Hid (Fr (fun _ => False) w (w1.alloc o1)) := Lib.hid (HF1.out.alloc _)
      clear HR1 HO1 HF1
      by_cases hm : p1 = mem
      · subst hm
        have hne : ((p1 : Int) == (p1 : Int)) = true := by simp
        have HKS2 := Lib.hid (HK.out.take (y := (p1, p2)) hpb rfl (by
          have := hlk
          exact this))
        have hl4 : L.length ≤ 4096 := HLE.out L HK.out.nd (fun x hx => ((HK.out.it x).1 hx).1)
        have hsrc : ∀ j v, (encPg (p1, p2))[j]? = some v → ((w1.alloc o1).alloc o1).cell? ((⟨w1.heap.size + 1, 0, none⟩ : Addr).add j) = some v := by
          have := Blk.src (X := encPg (p1, p2)) (Blk.new (w1.alloc o1) 104 (encPg (p1, p2)).toArray)
          rw [World.size_alloc] at this
          subst ho1
          exact this
        clear hlt
        subst ho1
        go_wp2_with (at_builtin
                     go_loud (refine wpList_append_own _ rfl (.tmp 20) (.tmp 22) 112 rfl (w.heap.size + 1) 104 i0 _ 2 16 Try.underlying112 hii hz0 hz1 hz2 rfl (by decide) v5 L.length (L.flatMap encPg) rfl (HO2.out.alloc _) ⟨w1.heap.size + 1, 0, none⟩ 1 1 (encPg (p1, p2)) rfl rfl hsrc (encPg_one (p1, p2)) (by unfold maxLen; omega) (by omega) (by have := HF2.out.size; simp at this ⊢; omega) ?_)
                     intro v' w4 hown4 hgrow4 _
                     have HO4 : Hid (w4.ownsRow (w.heap.size + 1) 104 2 v' (L ++ [(p1, p2)]).length ((L ++ [(p1, p2)]).flatMap encPg)) := Lib.hid (by
                       rw [List.length_append, List.flatMap_append]
                       simpa using hown4)
                     have HG4 := Lib.hid hgrow4
                     clear hown4 hgrow4)
        have HF4 : Hid (Fr (fun _ => False) w w4) := Lib.hid ((HF2.out.alloc _).trans_new (Fr.grownV HG4.out) (fun q hq => .inr (by
          have := (HO2.out.lt q hq).1
          omega)))
        have HR4 : Hid (w4.ranges Try.prog 104 asis A.bm w.heap.size d.sd.n D (fun z => left z && !z.sameKey (pl (cs2 (p1, p2)))) cnt1) := Lib.hid (by
          obtain ⟨l1, l2⟩ := ranges_lt HR2.out
          have hb : ∀ q, q ≤ w.heap.size → q < (w1.alloc (Obj.cells #[Value.int IntKind.i64 (p1 : Int), Value.int IntKind.i64 (p2 : Int)] 104)).heap.size → w4.heap[q]? = (w1.alloc (Obj.cells #[Value.int IntKind.i64 (p1 : Int), Value.int IntKind.i64 (p2 : Int)] 104)).heap[q]? := fun q hq hl => by
            refine ((Fr.grownV HG4.out).block q (by rw [World.size_alloc]; omega) (fun e => ?_)).trans (Below.heap_alloc _ _ q hl)
            have := (HO2.out.lt q e).1
            omega
          exact ranges_same HR2.out (hb _ (by omega) l1) (hb _ (Nat.le_refl _) l2))
        go_roundw
        case rel => exact ⟨_, _, cnt1, v', rfl, HR4.out, HKS2, HO4, HF4⟩
        case measure => rw [HR4.out.left_eq, HRG.out.left_eq]; exact HLT.out
      · have hne : ((p1 : Int) == (mem : Int)) = false := by simp; omega
        have HKS2 := Lib.hid (HK.out.skip hp hm)
        clear hlt
        subst ho1
        go_wp2
        go_roundw
        case rel => exact ⟨L, _, cnt1, v5, rfl, HR2.out, HKS2, HO2, HF2⟩
        case measure => rw [HR2.out.left_eq, HRG.out.left_eq]; exact HLT.out
end Go.Proofs.Ytlnffcledpccjaa
