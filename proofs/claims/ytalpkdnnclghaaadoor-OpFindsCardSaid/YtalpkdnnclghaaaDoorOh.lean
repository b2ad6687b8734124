/-
  op.All: the walk.
-/
import Derived.Test.YtalpkdnnclghaaaDoorOg
import Derived.OwnWalk
import Derived.Outline
namespace Go.Proofs.YtalpkdnnclghaaaDoor
open Go.RowKit Go.ChangeShapes Go.WideShapes Go.ChangeAt
set_option linter.unusedVariables false
set_option linter.unusedSimpArgs false
theorem one_cells (r : Rw) : r.cells.toArray.all (·.oneCell') = true := by
  simp [Rw.cells, fewC, Value.oneCell']
theorem infC_one (r : Rw) (i : Nat) (At : Option Addr) (ct : Nat) (Ag : Option Addr) (cg : Nat) : ∀ u ∈ infC r i At ct Ag cg, u.oneCell' = true := by
  intro u hu
  simp [infC] at hu
  rcases hu with rfl | rfl | rfl | rfl | rfl <;> rfl
theorem src2 (w : World) (o : Obj) (l : List Value) (t : TypeId) : ∀ j u, l[j]? = some u → ((w.alloc o).alloc (.cells l.toArray t)).cell? ((⟨w.heap.size + 1, 0, none⟩ : Addr).add j) = some u := fun j u hu => by
  have hb := Blk.new (w.alloc o) t l.toArray
  have e : (w.alloc o).heap.size = w.heap.size + 1 := by simp
  rw [e] at hb
  rw [show (⟨w.heap.size + 1, 0, none⟩ : Addr).add j = ⟨w.heap.size + 1, j, none⟩ by cases j <;> simp [Addr.add], hb.cell, List.getElem?_toArray]; exact hu
theorem own_below2 {w wr w1 : World} {B E size : Nat} {v : Value} {n : Nat} {xs : List Value} {o o2 : Obj} (hb : Below B w wr) (hown : wr.ownsRow B E size v n xs) (hg : ((wr.alloc o).alloc o2).grownBy w1 v.ownBlock) (hB : B ≤ wr.heap.size) : Below B w w1 :=
  ((hb.alloc hB o).alloc (by simp; omega) o2).grown hg (by simp; omega) (fun j hj => by have := (hown.lt j hj).1; omega)
theorem blk6 {w w6 : World} {o o2 : Obj} {g t : Nat} {cs : Array Value} {base n : Nat} {v : Value} {zs : List Value} (hb : Blk w g t cs) (ht : t ≠ 57) (ho : w.ownsRow base 57 5 v n zs) (hgr : ((w.alloc o).alloc o2).grownBy w6 v.ownBlock) : Blk w6 g t cs := by
  have h2 : Blk ((w.alloc o).alloc o2) g t cs := (hb.alloc o).alloc o2
  rcases ho.2 with ⟨e, _⟩ | ⟨g2, cap, cur, e, _, h3, _⟩
  · rw [e] at hgr
    exact (hgr.block g h2.lt (by intro h; cases h)).trans h2
  · rw [e] at hgr
    refine (hgr.block g h2.lt (fun h => ?_)).trans h2
    simp [Value.ownBlock] at h
    subst h
    exact Blk.ne_ hb (t' := 57) (cs' := cur) h3 ht rfl
theorem own6 {w w6 : World} {o o2 : Obj} {B : Nat} {u : Value} {m : Nat} {us : List Value} {base n : Nat} {v : Value} {zs : List Value} (hu : w.ownsRow B 51 1 u m us) (ho : w.ownsRow base 57 5 v n zs) (hgr : ((w.alloc o).alloc o2).grownBy w6 v.ownBlock) : w6.ownsRow B 51 1 u m us :=
  ⟨hu.1, hu.2.imp id fun ⟨g2, cap, cur, e, h1, h2, h3⟩ => ⟨g2, cap, cur, e, h1, blk6 (t := 51) (cs := cur) h2 (by decide) ho hgr, h3⟩⟩
theorem Infs.six {w w6 : World} {o o2 : Obj} {B : Nat} {l : List (Rw × Nat)} {xs : List Value} {base n : Nat} {v : Value} {zs : List Value} (h : Infs w B l xs) (ho : w.ownsRow base 57 5 v n zs) (hgr : ((w.alloc o).alloc o2).grownBy w6 v.ownBlock) : Infs w6 B l xs := h.map fun _ _ _ hu => own6 hu ho hgr
def APost (w : World) (e : Ending) (w' : World) : Prop := ∃ v xs, e = .returned v ∧ w'.ownsRow w.heap.size 57 5 v 111 xs ∧ Infs w' w.heap.size OPS xs ∧ Below w.heap.size w w'
theorem ops_len (r : Rw) : (opsR r).length = (Lib.fields r.names).length := by simp [opsR]
theorem ops_more (r : Rw) (i : Nat) (h : i < (Lib.fields r.names).length) : (opsR r).take (i + 1) = (opsR r).take i ++ [(r, i)] := by
  rw [List.take_succ_eq_append_getElem (by rw [ops_len]; exact h)]
  simp [opsR]
theorem done_more (k : Nat) (r : Rw) (h : RW[k]? = some r) : (RW.take (k + 1)).flatMap opsR = (RW.take k).flatMap opsR ++ opsR r := by
  obtain ⟨h1, rfl⟩ := List.getElem?_eq_some_iff.1 h
  rw [List.take_succ_eq_append_getElem h1, List.flatMap_append]
  simp
theorem done_len (k : Nat) (r : Rw) (i : Nat) (h : RW[k]? = some r) (hi : i ≤ (Lib.fields r.names).length) : ((RW.take k).flatMap opsR ++ (opsR r).take i).length ≤ 111 := by
  have h1 := OPS_length
  unfold OPS at h1
  rw [← List.take_append_drop (k + 1) RW, List.flatMap_append, done_more k r h] at h1
  simp only [List.length_append, List.length_take] at h1 ⊢
  have := ops_len r
  omega
set_option maxHeartbeats 8000000 in
set_option maxRecDepth 100000 in
theorem All_any (w : World) (hT : Tb w) : Calls Tryd.prog 42 #[] w (APost w) := by
  obtain ⟨i0, hii, hz0, hz1, hz2⟩ := info_parts info57
  have R := Lib.hid (fun W => Rows_ok W)
  have HRW := Lib.hid RW_length
  have IX := Lib.hid idx97
  generalize CR = C at R IX
  have HT := Lib.hid hT
  clear hT
  go_enter Tryd.func42, Tryd.ntmps42
  go_wp2_with (go_at_call 57; (with_reducible refine (R.out _).mono ?_); rintro e w1 ⟨rfl, rfl⟩)
  go_loopw [1, 8] (fun v1 v8 wr => ∃ (k : Nat) (xs : List Value), k ≤ 38 ∧ v8 = .int .i64 k ∧ Hid (wr.ownsRow w.heap.size 57 5 v1 ((RW.take k).flatMap opsR).length xs) ∧ Hid (Infs wr w.heap.size ((RW.take k).flatMap opsR) xs) ∧ Hid (Below w.heap.size w wr)) (fun _ v8 _ => 38 - (intOf v8).toNat)
  case atStart => exact ⟨0, [], by omega, rfl, Lib.hid (World.ownsRow_nil _ _ _ _), Lib.hid rfl, Lib.hid ((Below.refl _ _).alloc (Nat.le_refl _) _)⟩
  case round =>
    obtain ⟨k, xs, hk, rfl, HO, HX, HB⟩ := hrel
    obtain ⟨wo, rfl⟩ : ∃ wo : World, wo = wr := ⟨_, rfl⟩
    by_cases hlt : k < 38
    · obtain ⟨r, HR⟩ : ∃ r, Hid (RW[k]? = some r) := ⟨_, Lib.hid (List.getElem?_eq_getElem (by rw [HRW.out]; omega))⟩
      have HG := Lib.hid (good_in (List.mem_of_getElem? HR.out))
      have ix := IX.out k r HR.out
      have HC1 := Lib.hid (one_cells r)
      have HCS : Hid (r.cells.toArray.size = 10) := Lib.hid rfl
      have HAT : Hid (∀ W b, Blk W b 96 r.cells.toArray → RowAt W b 0 r) := Lib.hid (fun W b hb j hj => by rw [hb.cell, Nat.zero_add, List.getElem?_toArray])
      generalize r.cells.toArray = rc at ix HC1 HCS HAT
      have hdk : decide ((k : Int) < 38) = true := by simp; omega
      have HF := Lib.hid (fun W hT => Fld_ok r.names (by have := HG.out.len; omega) HG.out.ascii W hT)
      have HWL : Hid ((WS r.names).length = (Lib.fields r.names).length) := Lib.hid (by unfold WS; rw [List.length_map])
      have hw9 := HG.out.words
      rw [← HWL.out] at hw9
      generalize (WS r.names) = ws at HF HWL hw9
      obtain ⟨n, hn⟩ : ∃ n, n = ws.length := ⟨_, rfl⟩
      rw [← hn] at HF HWL hw9
      have HZ : Hid (w.heap.size ≤ wo.heap.size) := Lib.hid HB.out.size
      clear hn
      go_wp2_with (first
        | (with_reducible refine wpList_store_row rfl 96 (.tmp 3) (.tmp 10) rfl wo.heap.size rc rfl rfl 96 #[.int .i64 0, .string ⟨#[]⟩, .string ⟨#[]⟩, .int .i64 0, .int .u8 0, .int .u8 0, .int .u8 0, .int .u8 0, .int .u8 0, .int .u8 0] ?d1 ?d2 ?d3 ?d4 ?_
           case d1 => exact heap_alloc_new _ _
           case d2 => rw [HCS.out]; kernel_rfl
           case d3 => rw [HCS.out]; rfl
           case d4 => exact HC1.out
           rw [World.setRow_alloc_new]
           generalize hw2 : wo.alloc (.cells rc 96) = w2
           have HBB : Hid (Below wo.heap.size wo w2) := Lib.hid (by rw [← hw2]; exact (Below.refl _ _).alloc (Nat.le_refl _) _)
           have HBK : Hid (Blk w2 wo.heap.size 96 rc) := Lib.hid (by rw [← hw2]; exact Blk.new _ _ _)
           have HB2 : Hid (Below w.heap.size w w2) := Lib.hid (HB.out.trans (HBB.out.mono HB.out.size))
           have HA := Lib.hid (HAT.out w2 _ HBK.out)
           have c2 : w2.cell? ⟨wo.heap.size, 2, none⟩ = some (.string ⟨r.names.toArray⟩) := (rowCells HA.out).2.2.1
           have HO2 := Lib.hid (own_kept HO.out HBB.out)
           have HX2 := Lib.hid (HX.out.kept HBB.out)
           have HT2 := Lib.hid (HT.out.below HB2.out HT.out.size)
           clear hw2 HO HX)
        | (go_at_call 61; (with_reducible refine (HF.out _ HT2.out).mono ?_); rintro e w3 ⟨rfl, rfl⟩
           generalize hw3 : w2.alloc (.cells ws.toArray 9) = w3
           have HBC : Hid (Below w2.heap.size w2 w3) := Lib.hid (by rw [← hw3]; exact (Below.refl _ _).alloc (Nat.le_refl _) _)
           have HB3 : Hid (Below w.heap.size w w3) := Lib.hid (HB2.out.trans (HBC.out.mono HB2.out.size))
           have HBK3 := Lib.hid (HBK.out.below HBC.out HBK.out.lt)
           have HO3 := Lib.hid (own_kept HO2.out HBC.out)
           have HX3 := Lib.hid (HX2.out.kept HBC.out)
           clear hw3 HO2 HX2 c2))
      clear hdk
      go_loopw [1, 15] (fun v1 v15 wq => ∃ (i : Nat) (ys : List Value), i ≤ n ∧ v15 = .int .i64 i ∧ Hid (wq.ownsRow w.heap.size 57 5 v1 ((RW.take k).flatMap opsR ++ (opsR r).take i).length ys) ∧ Hid (Infs wq w.heap.size ((RW.take k).flatMap opsR ++ (opsR r).take i) ys) ∧ Hid (Blk wq wo.heap.size 96 rc) ∧ Hid (Below w.heap.size w wq)) (fun _ v15 _ => n - (intOf v15).toNat)
      case atStart => exact ⟨0, xs, by omega, rfl, (by rw [List.take_zero, List.append_nil]; exact HO3), (by rw [List.take_zero, List.append_nil]; exact HX3), HBK3, HB3⟩
      case round =>
        obtain ⟨i, ys, hin, rfl, HOq, HXq, HBKq, HBq⟩ := hrel
        by_cases hi : i < n
        · have HIN : Hid (i < (Lib.fields r.names).length) := Lib.hid (by rw [← HWL.out]; exact hi)
          have HTq := Lib.hid (HT.out.below HBq.out HT.out.size)
          have HI := Lib.hid (Info_ok r HG.out wo.heap.size 0 i HIN.out wr HTq.out (HAT.out wr _ HBKq.out))
          have HDL := Lib.hid (done_len k r (i + 1) HR.out (by have := HIN.out; omega))
          obtain ⟨DL, hDL⟩ : ∃ DL, DL = ((RW.take k).flatMap opsR ++ (opsR r).take i).length := ⟨_, rfl⟩
          have HDE : Hid (((RW.take k).flatMap opsR ++ (opsR r).take (i + 1)).length = DL + 1) := Lib.hid (by rw [ops_more r i HIN.out, ← List.append_assoc, List.length_append, ← hDL]; rfl)
          rw [← hDL] at HOq
          have hd111 : DL + 1 ≤ 111 := by have := HDL.out; rw [HDE.out] at this; exact this
          clear hDL
          obtain ⟨Av, cv, rfl⟩ := own_slice HOq.out
          go_wp2_with (first
            | (go_at_call 58; (with_reducible refine HI.out.mono ?_); rintro e w4 ⟨At, ct, Ag, cg, rfl, h1, h2, h3⟩
               have H1 : Hid (w4.ownsRow w.heap.size 51 1 (.slice At r.takes.length ct) r.takes.length (r.takes.map U8)) := Lib.hid (own_base h1 HBq.out.size)
               have H2 : Hid (w4.ownsRow w.heap.size 51 1 (.slice Ag r.gives.length cg) r.gives.length (r.gives.map U8)) := Lib.hid (own_base h2 HBq.out.size)
               have H3 := Lib.hid h3
               have HBK4 := Lib.hid (HBKq.out.below h3 HBKq.out.lt)
               have HO4 := Lib.hid (own_kept HOq.out h3)
               have HX4 := Lib.hid (HXq.out.kept h3)
               have HB4 : Hid (Below w.heap.size w w4) := Lib.hid (HBq.out.trans (h3.mono HBq.out.size))
               clear h1 h2 h3)
            | (with_reducible refine wpList_store57 rfl (.tmp 5) (.tmp 21) rfl w4.heap.size #[.int .i64 0, .string ⟨#[]⟩, .int .i64 0, .slice none 0 0, .slice none 0 0] _ _ _ _ _ _ _ _ _ rfl rfl (Blk.new w4 57 _) (Lib.hid rfl) ?_
               rw [World.setRow_alloc_new])
            | (at_builtin
               refine wpList_append_own _ rfl (.tmp 23) (.tmp 25) 67 rfl w.heap.size 57 i0 _ 5 80 Tryd.underlying67 hii hz0 hz1 hz2 rfl (by decide) (.slice Av DL cv) DL ys rfl ((HO4.out.alloc _).alloc _) ⟨w4.heap.size + 1, 0, none⟩ 1 1 (infC r i At ct Ag cg) rfl rfl ?a1 (infC_one r i At ct Ag cg) ?a2 ?a3 ?a4 ?_
               case a1 => exact src2 w4 _ (infC r i At ct Ag cg) 57
               case a2 => unfold maxLen; omega
               case a3 => omega
               case a4 => have := HB4.out.size; simp; omega
               intro v6 w6 hown6 hg6 _
               have HBG : Hid (Below w.heap.size w w6) := Lib.hid (own_below2 HB4.out HO4.out hg6 HB4.out.size)
               have HO6 : Hid (w6.ownsRow w.heap.size 57 5 v6 ((RW.take k).flatMap opsR ++ (opsR r).take (i + 1)).length (ys ++ infC r i At ct Ag cg)) := Lib.hid (by rw [HDE.out]; exact hown6)
               have HX6 : Hid (Infs w6 w.heap.size ((RW.take k).flatMap opsR ++ (opsR r).take (i + 1)) (ys ++ infC r i At ct Ag cg)) := Lib.hid (by
                 rw [ops_more r i HIN.out, ← List.append_assoc]
                 exact (HX4.out.six HO4.out hg6).snoc (own6 H1.out HO4.out hg6) (own6 H2.out HO4.out hg6))
               have HBK6 := Lib.hid (blk6 HBK4.out (by decide) HO4.out hg6)
               clear hown6 hg6))
          go_roundw
          case rel => exact ⟨i + 1, ys ++ infC r i At ct Ag cg, by omega, by go_num, HO6, HX6, HBK6, HBG⟩
          case measure => simp [intOf]; omega
        · obtain rfl : i = n := by omega
          have HEQ : Hid ((RW.take k).flatMap opsR ++ (opsR r).take i = (RW.take (k + 1)).flatMap opsR) := Lib.hid (by
            have e2 : (opsR r).take i = opsR r := List.take_of_length_le (by rw [ops_len, ← HWL.out]; exact Nat.le_refl _)
            rw [done_more k r HR.out, e2])
          rw [HEQ.out] at HOq HXq
          go_wp2_with fail
          go_roundw
          case rel => exact ⟨k + 1, ys, by omega, by go_num, HOq, HXq, HBq⟩
          case measure => simp [intOf]; omega
    · obtain rfl : k = 38 := by omega
      go_wp2
      go_ret
      have e : (RW.take 38).flatMap opsR = OPS := by rw [List.take_of_length_le (by rw [HRW.out]; exact Nat.le_refl _)]; rfl
      have h1 := HO.out
      have h2 := HX.out
      rw [e] at h1 h2
      rw [OPS_length] at h1
      exact ⟨_, xs, rfl, h1, h2, HB.out⟩
end Go.Proofs.YtalpkdnnclghaaaDoor
