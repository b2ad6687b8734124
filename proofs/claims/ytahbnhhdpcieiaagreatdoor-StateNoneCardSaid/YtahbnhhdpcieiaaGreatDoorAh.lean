/-
  arena.Arena.Copy, Bytes, where the place is there.
-/
import Derived.Test.YtahbnhhdpcieiaaGreatDoorAg
import Derived.Test.YtahbnhhdpcieiaaGreatDoorM
namespace Go.Proofs.YtahbnhhdpcieiaaGreatDoor
open Go.RowKit
set_option linter.unusedVariables false
set_option maxHeartbeats 1000000 in
set_option maxRecDepth 100000 in
theorem Ahas_ok (a bb rm gm : Nat) (d : Ad) (p n : Nat) (w : World) (h : Are w a bb rm gm d) (hp : p + n ≤ d.sz) :
    Calls Tryz.prog 115 #[.pointer (some ⟨a, 0, none⟩), .int .i64 p, .int .i64 n] w fun e w' => e = .returned (.int .i64 0) ∧ w = w' := by
  have c0 : w.cell? ⟨a, 0, none⟩ = some (.slice (some ⟨bb, 0, none⟩) d.sz d.sz) := h.blk.cell 0
  have hlim := h.lim
  clear h
  go_enter Tryz.func115, Tryz.ntmps115
  go_wp2
  go_ret
  exact ⟨rfl, rfl⟩
def Ad.cpy (d : Ad) (p : Nat) (l : List Nat) : Ad := { d with mem := putM d.mem p l }
theorem putM_map (mem : List Nat) (p : Nat) (l : List Nat) : (putM mem p l).map U8 = splice (mem.map U8) p (l.map U8) := by
  unfold putM splice
  simp [List.map_take, List.map_drop]
theorem Are.cpy {w w' : World} {a bb rm gm : Nat} {d : Ad} {p : Nat} {l : List Nat} (h : Are w a bb rm gm d) (hp : p + l.length ≤ d.sz) (hl : ∀ x ∈ l, x < 256) (hb : Blk w' bb 5 ((putM d.mem p l).map U8).toArray) (hf : Fr (· = bb) w w') : Are w' a bb rm gm (d.cpy p l) := by
  obtain ⟨n, hn, hi⟩ := h.rooms
  obtain ⟨n', hn', hi'⟩ := h.given
  have hlen := h.len
  refine ⟨h.blk.fr hf (Ne.symm h.ab), hb, ?_, ?_, h.lim, ⟨n, hn, hi.fr hf h.rb⟩, ⟨n', hn', hi'.fr hf h.gb⟩, ?_, h.apart, h.few, h.rin, h.gin, h.hsz, h.liv1, h.liv2, h.rg⟩
  · show (putM d.mem p l).length = d.sz
    unfold putM
    simp
    omega
  · intro x hx
    have hx' : x ∈ putM d.mem p l := hx
    unfold putM at hx'
    rw [List.mem_append, List.mem_append] at hx'
    rcases hx' with q | q | q
    · exact h.all x (List.mem_of_mem_take q)
    · exact hl x q
    · exact h.all x (List.mem_of_mem_drop q)
  · intro i hi2
    exact ownsRow_same (h.own i hi2) (fun k hk => hf.block k (h.mlt (.inr (.inr (.inr (.inr ⟨i, hi2, hk⟩))))) (fun q => (h.own_ne hi2).2.1 (hk.trans (congrArg some q))))
set_option maxHeartbeats 1000000 in
set_option maxRecDepth 100000 in
theorem Copy_ok (a bb rm gm : Nat) (d : Ad) (p n cap : Nat) (A : Option Addr) (l : List Nat) (w : World) (h : Are w a bb rm gm d) (hb : Byt w A n cap l) (h0 : 0 < n) (hp : p + n ≤ d.sz) :
    Calls Tryz.prog 117 #[.pointer (some ⟨a, 0, none⟩), .int .i64 p, .slice A n cap] w fun e w' => e = .returned (.int .i64 0) ∧ Are w' a bb rm gm (d.cpy p l) ∧ Fr (· = bb) w w' := by
  have HH := Lib.hid (Ahas_ok a bb rm gm d p n w h hp)
  have c0 : w.cell? ⟨a, 0, none⟩ = some (.slice (some ⟨bb, 0, none⟩) d.sz d.sz) := h.blk.cell 0
  have hlim := h.lim
  obtain ⟨cur, hcur⟩ : ∃ cur, cur = d.mem.map U8 := ⟨_, rfl⟩
  have HC := Lib.hid hcur
  have HCl : Hid (cur.length = d.sz) := Lib.hid (by rw [hcur, List.length_map]; exact h.len)
  obtain ⟨X, hX⟩ : ∃ X, X = l.map U8 := ⟨_, rfl⟩
  have HX := Lib.hid hX
  have HXl : Hid (X.length = n) := Lib.hid (by rw [hX, List.length_map]; exact hb.1)
  have HX1 : Hid (∀ v ∈ X, v.oneCell' = true) := Lib.hid (by rw [hX]; exact u8_one l)
  have H := Lib.hid h
  have HB := Lib.hid hb
  have hn9 : n ≤ 9223372036854775807 := Nat.le_trans hb.2.2.1 hb.2.2.2.1
  obtain ⟨g, off, rfl, _, _⟩ := hb.2.2.2.2 h0
  clear h hb hcur hX
  go_enter Tryz.func117, Tryz.ntmps117
  go_wp2_with (first
    | (go_at_call 115; refine HH.out.mono ?_; rintro e w' ⟨rfl, rfl⟩)
    | (with_reducible refine wpList_copy_fr rfl (.tmp 21) (.tmp 22) 83 83 rfl 5 Tryz.underlying83 info5size (some ⟨bb, p, none⟩) (some ⟨g, off, none⟩) (d.sz - p) (d.sz - p) n cap rfl rfl bb p cur 5 ?d0 X ?d1 ?d2 ?d3 HX1.out ?_
       case d0 => rw [HC.out]; exact H.out.byt
       case d1 => rw [HXl.out]; exact (Nat.min_eq_left (by omega)).symm
       case d2 =>
         intro _
         obtain ⟨ad, e, hh⟩ := HB.out.src h0
         exact ⟨rfl, ad, e, by rw [HX.out]; exact hh⟩
       case d3 => rw [HXl.out, HCl.out]; omega
       intro w3 hg3 hf3
       have HF3 := Lib.hid hf3
       clear hf3))
  go_ret
  have hl : l.length = n := HB.out.1
  refine ⟨rfl, H.out.cpy (by rw [hl]; exact hp) HB.out.2.1 ?_ HF3.out, HF3.out⟩
  have := hg3.out
  rw [HC.out, HX.out, ← putM_map] at this
  exact this
def ByPost (a bb rm gm : Nat) (d : Ad) (p n : Nat) (w : World) (e : Ending) (w' : World) : Prop :=
  ∃ b : Nat, e = .returned (.tuple #[.slice (some ⟨b, 0, none⟩) n n, .int .i64 0]) ∧ Byt w' (some ⟨b, 0, none⟩) n n ((d.mem.drop p).take n) ∧ Below w.heap.size w w'
set_option maxHeartbeats 1000000 in
set_option maxRecDepth 100000 in
theorem Bytes_ok (a bb rm gm : Nat) (d : Ad) (p n : Nat) (w : World) (h : Are w a bb rm gm d) (h0 : 0 < n) (hp : p + n ≤ d.sz) :
    Calls Tryz.prog 71 #[.pointer (some ⟨a, 0, none⟩), .int .i64 p, .int .i64 n] w (ByPost a bb rm gm d p n w) := by
  obtain ⟨i0, hi, hz0, hz1, hz2⟩ := info_parts info5
  have HH := Lib.hid (Ahas_ok a bb rm gm d p n w h hp)
  have hlim := h.lim
  have H := Lib.hid h
  obtain ⟨X, hX⟩ : ∃ X, X = ((d.mem.drop p).take n).map U8 := ⟨_, rfl⟩
  have hlen : ((d.mem.drop p).take n).length = n := by rw [List.length_take, List.length_drop, h.len]; omega
  have HX := Lib.hid hX
  have HXl : Hid (X.length = n) := Lib.hid (by rw [hX, List.length_map]; exact hlen)
  have HX1 : Hid (∀ v ∈ X, v.oneCell' = true) := Lib.hid (by rw [hX]; exact u8_one _)
  have HLn := Lib.hid hlen
  obtain ⟨cur, hcur⟩ : ∃ cur, cur = (madeCells (Value.int .u8 0).cells n).toList := ⟨_, rfl⟩
  have hcurl : Hid (cur.length = n) := Lib.hid (by rw [hcur, Array.length_toList, size_madeCells])
  have hcurE : Hid (madeCells (Value.int .u8 0).cells n = cur.toArray) := Lib.hid (by rw [hcur])
  clear h hX hlen hcur
  go_enter Tryz.func71, Tryz.ntmps71
  go_wp2_with (first
    | (go_at_call 115; refine HH.out.mono ?_; rintro e w' ⟨rfl, rfl⟩)
    | (at_make
       refine wpList_make_lc _ rfl (.tmp 17) (.tmp 17) 83 rfl 5 i0 _ Tryz.underlying83 hi hz0 hz1 .i64 .i64 _ _ n n rfl rfl rfl rfl (Nat.le_refl _) (by rw [hz2]; omega) (by unfold maxLen; omega) ?_
       intro w2 hg2 hbel2
       have HG2 : Hid (Blk w2 w.heap.size 5 cur.toArray) := Lib.hid (by
         have := hg2.out
         rw [hcurE.out] at this
         exact this)
       have HB2 := Lib.hid hbel2
       have HS2 : Hid (Are w2 a bb rm gm d) := Lib.hid (H.out.below hbel2 (Nat.le_refl _))
       have c2 : w2.cell? ⟨a, 0, none⟩ = some (.slice (some ⟨bb, 0, none⟩) d.sz d.sz) := HS2.out.blk.cell 0
       clear hg2 hbel2)
    | (with_reducible refine wpList_copy_splice rfl (.tmp 19) (.tmp 25) 83 83 rfl 5 Tryz.underlying83 info5size (some ⟨w.heap.size, 0, none⟩) (some ⟨bb, p, none⟩) n n (d.sz - p) (d.sz - p) rfl rfl w.heap.size 0 cur 5 HG2.out.row X ?d1 ?d2 ?d3 HX1.out w.heap.size w HB2.out (Nat.le_refl _) ?_
       case d1 => rw [HXl.out]; exact (Nat.min_eq_right (by omega)).symm
       case d2 =>
         intro _
         refine ⟨rfl, _, rfl, fun j v hv => ?_⟩
         have hj : j < n := by
           have := (List.getElem?_eq_some_iff.1 hv).1
           rw [HXl.out] at this; exact this
         rw [HX.out, List.getElem?_map, List.getElem?_take_of_lt hj, List.getElem?_drop] at hv
         rw [addr_add, HS2.out.byt.cell, List.getElem?_toArray, List.getElem?_map]
         exact hv
       case d3 => rw [HXl.out, hcurl.out]; omega
       intro w3 hg3 hbel3
       have HB3 := Lib.hid hbel3
       clear hbel3))
  go_ret2
  have hfin : Blk w3 w.heap.size 5 (((d.mem.drop p).take n).map U8).toArray := by
    have := hg3.out
    rw [splice_all (by rw [HXl.out, hcurl.out]), HX.out] at this
    exact this
  exact ⟨w.heap.size, rfl, byt_of_blk hfin HLn.out (fun x hx => H.out.all x (List.mem_of_mem_drop (List.mem_of_mem_take hx))) (by unfold maxLen; omega), HB3.out⟩
theorem own_fr {w w' : World} {S : Nat → Prop} {B n : Nat} {v : Value} {xs : List Value} (h : w.ownsRow B 3 1 v n xs) (hf : Fr S w w') (hS : ∀ g cur, Blk w g 3 cur → v.ownBlock = some g → ¬ S g) : w'.ownsRow B 3 1 v n xs := by
  refine ⟨h.1, ?_⟩
  rcases h.2 with h0 | ⟨g, cap, cur, e, h1, hg, h2⟩
  · exact .inl h0
  · subst e
    exact .inr ⟨g, cap, cur, rfl, h1, hf.keep hg (hS g cur hg rfl), h2⟩
theorem Are.row_ne {w : World} {a bb rm gm g : Nat} {d : Ad} {cur : Array Value} (h : Are w a bb rm gm d) (hg : Blk w g 3 cur) : ¬ arb a bb rm gm g := by
  obtain ⟨n, _, hi⟩ := h.rooms
  obtain ⟨n', _, hi'⟩ := h.given
  rintro (rfl | rfl | rfl | rfl)
  · exact hg.ne_ h.blk (by decide) rfl
  · exact hg.ne_ h.byt (by decide) rfl
  · exact hi.ne_ hg rfl
  · exact hi'.ne_ hg rfl
theorem ARel.fr0 {w w1 w2 : World} {S : Nat → Prop} {a bb rm gm : Nat} {d : Ad} (h : ARel w a bb rm gm d w1) (hG : ∀ c, d.G c = []) (hf : Fr S w1 w2) (hS : ∀ k, arb a bb rm gm k → ¬ S k) (hB : ∀ k, S k → w.heap.size ≤ k) : ARel w a bb rm gm d w2 := by
  refine ⟨h.are.fr hf (fun k hk => ?_), hf.below h.bel h.bel.size hB, h.ha, h.hb, h.hr, h.hg, h.own⟩
  rcases hk with q | q | q | q | ⟨c, hc, _⟩
  · exact hS k (.inl q)
  · exact hS k (.inr (.inl q))
  · exact hS k (.inr (.inr (.inl q)))
  · exact hS k (.inr (.inr (.inr q)))
  · exact absurd (hG c) hc
def PR (cs : Nat → Nat) (k : Nat) : List Value := (List.range k).map fun j => I64 (lv cs j)
theorem PR_succ (cs : Nat → Nat) (k : Nat) : PR cs (k + 1) = PR cs k ++ [Value.int .i64 ((lv cs k : Nat) : Int)] := by simp [PR, List.range_succ, I64]
theorem pls_of_own {w : World} {B n : Nat} {v : Value} {cs : Nat → Nat} (h : w.ownsRow B 3 1 v n (PR cs n)) : Pls w w.heap.size v n (lv cs) := by
  rcases h.2 with ⟨rfl, rfl⟩ | ⟨g, cap, cur, rfl, h1, hg, h2, h3, h4, h5⟩
  · exact ⟨none, 0, rfl, Nat.le_refl _, Nat.zero_le _, fun h => by omega⟩
  · refine ⟨_, cap, rfl, h2, h3, fun h0 => ⟨g, rfl, Blk.lt hg, Blk.lt hg, fun j hj => ?_⟩⟩
    rw [Blk.cell hg, ← Array.getElem?_toList]
    have h6 : cur.toList[j]? = (cur.toList.take (n * 1))[j]? := by rw [List.getElem?_take_of_lt (by omega)]
    rw [h6, h5]
    simp [PR, hj, I64]
theorem quiet_left {P : Program} {f : FuncId} {args : Array Value} {w : World} {n : Nat} {v : Value}
    (h : Calls P f args (w.drewN n) fun e w' => e = .returned v ∧ w.drewN n = w') : Calls P f args (w.drewN n) fun e w'' => e = .returned v ∧ ∃ m, w'' = w.drewN m :=
  h.mono fun _ _ ⟨he, hm⟩ => ⟨he, n, hm.symm⟩
theorem ARel.cpy {w w1 w2 : World} {a bb rm gm p : Nat} {l : List Nat} {d : Ad} (h : ARel w a bb rm gm d w1) (hs : Are w2 a bb rm gm (d.cpy p l)) (hf : Fr (· = bb) w1 w2) : ARel w a bb rm gm (d.cpy p l) w2 :=
  ⟨hs, hf.below h.bel h.bel.size (fun k hk => by rw [hk]; exact h.hb), h.ha, h.hb, h.hr, h.hg, h.own⟩
theorem ARel.mv {w w1 w2 : World} {a bb rm gm : Nat} {d : Ad} (h : ARel w a bb rm gm d w1) (hb : Below w1.heap.size w1 w2) : ARel w a bb rm gm d w2 :=
  ⟨h.are.below hb (Nat.le_refl _), h.bel.trans (hb.mono h.bel.size), h.ha, h.hb, h.hr, h.hg, h.own⟩
theorem Pls.fr {S : Nat → Prop} {w1 w2 : World} {B n : Nat} {v : Value} {ps : Nat → Nat} (h : Pls w1 B v n ps) (hf : Fr S w1 w2) (hS : 0 < n → ∀ A cap, v = .slice A n cap → ∀ g, A = some ⟨g, 0, none⟩ → ¬ S g) : Pls w2 B v n ps := by
  obtain ⟨A, cap, e, h1, h2, h3⟩ := h
  refine ⟨A, cap, e, h1, h2, fun h0 => ?_⟩
  obtain ⟨g, eg, hg, hlt, hc⟩ := h3 h0
  refine ⟨g, eg, hg, Nat.lt_of_lt_of_le hlt hf.size, fun j hj => ?_⟩
  rw [← hc j hj]
  exact World.cell?_of_block (hf.block g hlt (hS h0 A cap e g eg))
/-- the bytes of rooms in a row: those of the j-th one are j + 1 -/
def MS (cs : Nat → Nat) (k : Nat) (d : Ad) : Prop := ∀ j, j < k → ∀ x, x < cs j → d.mem[lv cs j + x]? = some (j + 1)
theorem zeroM_lo {mem : List Nat} {p c i : Nat} (hi : i < p) (hp : p ≤ mem.length) : (zeroM mem p c)[i]? = mem[i]? := by
  unfold zeroM
  rw [List.getElem?_append_left (by simp; omega), List.getElem?_take_of_lt hi]
theorem putM_lo {mem l : List Nat} {p i : Nat} (hi : i < p) (hp : p ≤ mem.length) : (putM mem p l)[i]? = mem[i]? := by
  unfold putM
  rw [List.getElem?_append_left (by simp; omega), List.getElem?_take_of_lt hi]
theorem putM_in {mem l : List Nat} {p i : Nat} (hi : i < l.length) (hp : p ≤ mem.length) : (putM mem p l)[p + i]? = l[i]? := by
  unfold putM
  rw [List.getElem?_append_right (by rw [List.length_take]; omega)]
  simp only [List.length_take]
  rw [show p + i - min p mem.length = i from by omega, List.getElem?_append_left hi]
theorem MS.next {cs : Nat → Nat} {k : Nat} {d : Ad} {x : Int} (h : MS cs k d) (hx : cl x = cs k) (hh : d.height = lv cs k) (hm : d.height + cs k ≤ d.mem.length) : MS cs (k + 1) (((d.cut (cl x)).take d.height (cl x)).cpy (lv cs k) (List.replicate (cs k) (k + 1))) := by
  intro j hj y hy
  show (putM (zeroM d.mem d.height (cl x)) (lv cs k) (List.replicate (cs k) (k + 1)))[lv cs j + y]? = _
  rw [hx]
  have hz : (zeroM d.mem d.height (cs k)).length = d.mem.length := zeroM_len hm
  by_cases e : j = k
  · subst e
    rw [putM_in (by simpa using hy) (by omega), List.getElem?_replicate, if_pos hy]
  · have hlt : lv cs j + y < lv cs k := by
      have := lv_step cs j k (by omega)
      omega
    rw [putM_lo hlt (by omega), zeroM_lo (by omega) (by omega)]
    exact h j (by omega) y hy
theorem zeroM_in {mem : List Nat} {p c : Nat} (h : p + c ≤ mem.length) : ((zeroM mem p c).drop p).take c = List.replicate c 0 := by
  unfold zeroM
  rw [List.drop_append_of_le_length (by simp; omega), List.drop_of_length_le (by simp; omega)]
  simp
def fillL (q n v : Nat) : List Nat := List.replicate q v ++ List.replicate (n - q) 0
theorem fillL_set {q n v : Nat} (h : q < n) : (fillL q n v).set q v = fillL (q + 1) n v := by
  unfold fillL
  rw [List.set_append_right _ _ (by simp)]
  simp only [List.length_replicate, Nat.sub_self]
  obtain ⟨m, hm⟩ : ∃ m, n - q = m + 1 := ⟨n - q - 1, by omega⟩
  rw [hm, show n - (q + 1) = m from by omega, List.replicate_succ, List.set_cons_zero, List.replicate_succ', List.append_assoc]
  rfl
theorem fillL_blk {w : World} {b q n v : Nat} (h : Blk w b 5 ((fillL q n v).map U8).toArray) (hq : q < n) : Blk (w.setCell ⟨b, q, none⟩ (U8 v)) b 5 ((fillL (q + 1) n v).map U8).toArray := by
  have := h.set_ q (U8 v)
  rw [← fillL_set hq, List.map_set]
  simpa using this
theorem cl_again : ∀ x : Fin 256, cl ((cl (x.val : Int) : Nat) : Int) = cl (x.val : Int) := by decide +kernel
end Go.Proofs.YtahbnhhdpcieiaaGreatDoor
