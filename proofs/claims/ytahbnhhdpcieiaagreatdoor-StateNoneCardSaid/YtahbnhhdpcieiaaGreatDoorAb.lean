/-
  What is known of an arena: its struct, its bytes, its two maps and the rows of places that were given back; again, cut.
-/
import Derived.Test.YtahbnhhdpcieiaaGreatDoorAa
namespace Go.Proofs.YtahbnhhdpcieiaaGreatDoor
open Go.RowKit
set_option linter.unusedVariables false
def I64 (x : Nat) : Value := .int .i64 (x : Nat)
/-- an arena as it is told: rooms that are taken (R: place to class), places that were given back (G: class to places, the last one last; V: the slice that holds them), its bytes -/
structure Ad where
  sz : Nat
  live : Int
  height : Nat
  ops : Nat
  R : Nat → Option Nat
  G : Nat → List Nat
  V : Nat → Value
  mem : List Nat
def arC (bb rm gm : Nat) (d : Ad) : Array Value := #[.slice (some ⟨bb, 0, none⟩) d.sz d.sz, .map (some rm), .map (some gm), .int .i64 d.live, .int .i64 d.height]
def Ad.fr (d : Ad) (j : Int) : Option Value := if 0 ≤ j then (d.R j.toNat).map I64 else none
def Ad.fg (d : Ad) (j : Int) : Option Value := if 0 ≤ j then (if d.G j.toNat = [] then none else some (d.V j.toNat)) else none
structure Are (w : World) (a bb rm gm : Nat) (d : Ad) : Prop where
  blk : Blk w a 96 (arC bb rm gm d)
  byt : Blk w bb 5 (d.mem.map U8).toArray
  len : d.mem.length = d.sz
  all : ∀ x ∈ d.mem, x < 256
  lim : d.sz ≤ 4194304
  rooms : ∃ n, n ≤ d.ops ∧ IM w Tryz.prog 3 rm n d.fr
  given : ∃ n, n ≤ d.ops ∧ IM w Tryz.prog 3 gm n d.fg
  own : ∀ c, d.G c ≠ [] → w.ownsRow 0 3 1 (d.V c) (d.G c).length ((d.G c).map I64)
  apart : ∀ c c', d.G c ≠ [] → d.G c' ≠ [] → (d.V c).ownBlock = (d.V c').ownBlock → c = c'
  few : ∀ c, (d.G c).length ≤ d.ops
  rin : ∀ p c, d.R p = some c → p + c ≤ d.height ∧ 16 ≤ c ∧ c ≤ 4194304
  gin : ∀ c p, p ∈ d.G c → p + c ≤ d.height
  hsz : d.height ≤ d.sz
  liv1 : -(d.ops * 4194304) ≤ d.live
  liv2 : d.live ≤ d.ops * 4194304
  rg : rm ≠ gm
/-- a slice that holds places leads to a row -/
theorem own_row {w : World} {v : Value} {n : Nat} {xs : List Value} (h : w.ownsRow 0 3 1 v n xs) (hn : 0 < n) : ∃ g cap cur, v = .slice (some ⟨g, 0, none⟩) n cap ∧ Blk w g 3 cur ∧ n ≤ cap ∧ cap ≤ maxLen ∧ cur.size = cap ∧ cur.toList.take n = xs := by
  rcases h.2 with ⟨_, h0⟩ | ⟨g, cap, cur, e, _, hg, h1, h2, h3, h4⟩
  · omega
  · exact ⟨g, cap, cur, e, hg, h1, h2, by simpa using h3, by simpa using h4⟩
section
variable {w w' : World} {a bb rm gm : Nat} {d : Ad}
theorem Are.row (h : Are w a bb rm gm d) {c : Nat} (hc : d.G c ≠ []) : ∃ g cap cur, d.V c = .slice (some ⟨g, 0, none⟩) (d.G c).length cap ∧ Blk w g 3 cur ∧ (d.G c).length ≤ cap ∧ cap ≤ maxLen ∧ cur.size = cap ∧ cur.toList.take (d.G c).length = (d.G c).map I64 :=
  own_row (h.own c hc) (List.length_pos_iff.2 hc)
def Ad.mine (a bb rm gm : Nat) (d : Ad) (k : Nat) : Prop := k = a ∨ k = bb ∨ k = rm ∨ k = gm ∨ ∃ c, d.G c ≠ [] ∧ (d.V c).ownBlock = some k
theorem Are.ab (h : Are w a bb rm gm d) : bb ≠ a := h.byt.ne_ h.blk (by decide)
theorem Are.ra (h : Are w a bb rm gm d) : rm ≠ a := by obtain ⟨n, _, hi⟩ := h.rooms; exact hi.ne_ h.blk
theorem Are.ga (h : Are w a bb rm gm d) : gm ≠ a := by obtain ⟨n, _, hi⟩ := h.given; exact hi.ne_ h.blk
theorem Are.rb (h : Are w a bb rm gm d) : rm ≠ bb := by obtain ⟨n, _, hi⟩ := h.rooms; exact hi.ne_ h.byt
theorem Are.gb (h : Are w a bb rm gm d) : gm ≠ bb := by obtain ⟨n, _, hi⟩ := h.given; exact hi.ne_ h.byt
theorem Are.own_ne (h : Are w a bb rm gm d) {c : Nat} (hc : d.G c ≠ []) : (d.V c).ownBlock ≠ some a ∧ (d.V c).ownBlock ≠ some bb ∧ (d.V c).ownBlock ≠ some rm ∧ (d.V c).ownBlock ≠ some gm := by
  obtain ⟨g, cap, cur, e, hg, _⟩ := h.row hc
  obtain ⟨n, _, hi⟩ := h.rooms
  obtain ⟨n', _, hi'⟩ := h.given
  rw [e]
  refine ⟨fun q => ?_, fun q => ?_, fun q => ?_, fun q => ?_⟩ <;> (simp only [Value.ownBlock, Option.some.injEq] at q; subst q)
  · exact hg.ne_ h.blk (by decide) rfl
  · exact hg.ne_ h.byt (by decide) rfl
  · exact hi.ne_ hg rfl
  · exact hi'.ne_ hg rfl
theorem Are.mlt (h : Are w a bb rm gm d) {k : Nat} (hk : d.mine a bb rm gm k) : k < w.heap.size := by
  obtain ⟨n, _, hi⟩ := h.rooms
  obtain ⟨n', _, hi'⟩ := h.given
  rcases hk with rfl | rfl | rfl | rfl | ⟨c, hc, e⟩
  · exact h.blk.lt
  · exact h.byt.lt
  · exact hi.lt
  · exact hi'.lt
  · obtain ⟨g, cap, cur, e', hg, _⟩ := h.row hc
    rw [e'] at e
    simp only [Value.ownBlock, Option.some.injEq] at e
    subst e
    exact hg.lt
theorem ownsRow_same {v : Value} {n : Nat} {xs : List Value} (h : w.ownsRow 0 3 1 v n xs) (hb : ∀ k, v.ownBlock = some k → w'.heap[k]? = w.heap[k]?) : w'.ownsRow 0 3 1 v n xs := by
  refine ⟨h.1, ?_⟩
  rcases h.2 with h0 | ⟨g, cap, cur, e, h1, hg, h2⟩
  · exact .inl h0
  · subst e
    exact .inr ⟨g, cap, cur, rfl, h1, (hb g rfl).trans hg, h2⟩
theorem Are.same (h : Are w a bb rm gm d) (hb : ∀ k, d.mine a bb rm gm k → w'.heap[k]? = w.heap[k]?) : Are w' a bb rm gm d := by
  obtain ⟨n, hn, hi⟩ := h.rooms
  obtain ⟨n', hn', hi'⟩ := h.given
  exact ⟨(hb a (.inl rfl)).trans h.blk, (hb bb (.inr (.inl rfl))).trans h.byt, h.len, h.all, h.lim, ⟨n, hn, hi.same (hb rm (.inr (.inr (.inl rfl))))⟩, ⟨n', hn', hi'.same (hb gm (.inr (.inr (.inr (.inl rfl)))))⟩,
    fun c hc => ownsRow_same (h.own c hc) (fun k hk => hb k (.inr (.inr (.inr (.inr ⟨c, hc, hk⟩))))), h.apart, h.few, h.rin, h.gin, h.hsz, h.liv1, h.liv2, h.rg⟩
theorem Are.drewN (h : Are w a bb rm gm d) (k : Nat) : Are (w.drewN k) a bb rm gm d := h.same fun _ _ => rfl
theorem Are.fr {S : Nat → Prop} (h : Are w a bb rm gm d) (hf : Fr S w w') (hS : ∀ k, d.mine a bb rm gm k → ¬ S k) : Are w' a bb rm gm d := h.same fun k hk => hf.block k (h.mlt hk) (hS k hk)
theorem Are.below (h : Are w a bb rm gm d) {B : Nat} (hb : Below B w w') (hB : w.heap.size ≤ B) : Are w' a bb rm gm d := h.same fun k hk => hb.block k (Nat.lt_of_lt_of_le (h.mlt hk) hB)
theorem Are.alloc (h : Are w a bb rm gm d) (o : Obj) : Are (w.alloc o) a bb rm gm d := h.below ((Below.refl _ _).alloc (Nat.le_refl _) o) (Nat.le_refl _)
end
theorem zero48 (w : World) : (zeroValue 48).run Tryz.prog w = .ok (.slice none 0 0) w := by kernel_rfl
theorem zero3 (w : World) : (zeroValue 3).run Tryz.prog w = .ok (.int .i64 0) w := by kernel_rfl
theorem Ad.fg_nat (d : Ad) (c : Nat) : d.fg (c : Int) = if d.G c = [] then none else some (d.V c) := by
  unfold Ad.fg
  rw [if_pos (Int.natCast_nonneg c), Int.toNat_natCast]
theorem Ad.fr_nat (d : Ad) (p : Nat) : d.fr (p : Int) = (d.R p).map I64 := by
  unfold Ad.fr
  rw [if_pos (Int.natCast_nonneg p), Int.toNat_natCast]
/-- of class c the last one of those that were given back is taken away -/
def Ad.pop (d : Ad) (c : Nat) (xs : List Nat) (v : Value) : Ad := { d with G := fun i => if i = c then xs else d.G i, V := fun i => if i = c then v else d.V i }
set_option maxHeartbeats 1000000 in
set_option maxRecDepth 100000 in
theorem again_no (a bb rm gm : Nat) (d : Ad) (c : Nat) (w : World) (h : Are w a bb rm gm d) (hc : c ≤ 4194304) (hG : d.G c = []) :
    Calls Tryz.prog 133 #[.pointer (some ⟨a, 0, none⟩), .int .i64 c] w fun e w' => e = .returned (.tuple #[.int .i64 0, .int .i64 7]) ∧ w = w' := by
  have c2 : w.cell? ⟨a, 2, none⟩ = some (.map (some gm)) := h.blk.cell 2
  obtain ⟨n, hn, hi⟩ := h.given
  have HI := Lib.hid hi
  have HJ : Hid ((Lit.int .i64 (c : Int)).wf = true) := Lib.hid (WalkArith.wf_i64 (by omega))
  have HG := Lib.hid hG
  clear h hi hG
  go_enter Tryz.func133, Tryz.ntmps133
  go_wp2_with (at_lookup; refine wpList_lookup_im _ rfl _ _ 94 false rfl 3 48 Tryz.underlying3 Tryz.underlying94 (zero48 _) gm n d.fg rfl HI.out (c : Int) rfl HJ.out ?_; rw [if_neg (by decide), Ad.fg_nat, if_pos HG.out, Option.getD_none])
  go_ret2
  exact ⟨rfl, rfl⟩
def AgPost (a bb rm gm : Nat) (d : Ad) (c p : Nat) (xs : List Nat) (w : World) (e : Ending) (w' : World) : Prop :=
  ∃ v, e = .returned (.tuple #[.int .i64 p, .int .i64 0]) ∧ Are w' a bb rm gm (d.pop c xs v) ∧ Fr (· = gm) w w' ∧ v.ownBlock = (d.V c).ownBlock
theorem Are.pop {w w' : World} {a bb rm gm c g cap : Nat} {d : Ad} {xs : List Nat} {p : Nat} (h : Are w a bb rm gm d) (hG : d.G c = xs ++ [p]) (hV : d.V c = .slice (some ⟨g, 0, none⟩) (xs.length + 1) cap) (hf : Fr (· = gm) w w')
    {n : Nat} (hn : n ≤ d.ops) (hi : IM w' Tryz.prog 3 gm n (d.pop c xs (.slice (some ⟨g, 0, none⟩) xs.length cap)).fg) : Are w' a bb rm gm (d.pop c xs (.slice (some ⟨g, 0, none⟩) xs.length cap)) := by
  have hne : d.G c ≠ [] := by rw [hG]; simp
  have hoc := h.own_ne hne
  obtain ⟨n0, hn0, hi0⟩ := h.rooms
  have hGi : ∀ i, (d.pop c xs (.slice (some ⟨g, 0, none⟩) xs.length cap)).G i ≠ [] → d.G i ≠ [] := fun i hi => by
    by_cases e : i = c
    · rw [e]; exact hne
    · simpa [Ad.pop, e] using hi
  have hob : ∀ i, ((d.pop c xs (.slice (some ⟨g, 0, none⟩) xs.length cap)).V i).ownBlock = (d.V i).ownBlock := fun i => by
    by_cases e : i = c
    · simp only [Ad.pop, e, if_pos]; rw [hV]; rfl
    · simp [Ad.pop, e]
  refine ⟨h.blk.fr hf (Ne.symm h.ga), h.byt.fr hf (Ne.symm h.gb), h.len, h.all, h.lim, ⟨n0, hn0, hi0.fr hf h.rg⟩, ⟨n, hn, hi⟩, ?_, ?_, ?_, h.rin, ?_, h.hsz, h.liv1, h.liv2, h.rg⟩
  · intro i hi2
    by_cases e : i = c
    · subst e
      simp only [Ad.pop, if_pos] at hi2 ⊢
      have ho := h.own i hne
      obtain ⟨g', cap', cur, e', hg, h1, h2, h3, h4⟩ := h.row hne
      rw [hV] at e'
      injection e' with e1 e2 e3
      injection e1 with e1
      injection e1 with e1
      subst e1
      subst e3
      have hl : (d.G i).length = xs.length + 1 := by rw [hG]; simp
      rw [hl] at h1 h4
      refine ⟨by simp, .inr ⟨g, cap, cur, rfl, Nat.zero_le _, ?_, by omega, h2, by simpa using h3, ?_⟩⟩
      · exact hg.fr hf (fun q => hoc.2.2.2 (by rw [hV, ← q]; rfl))
      · rw [Nat.mul_one]
        have h5 : cur.toList.take xs.length = (cur.toList.take (xs.length + 1)).take xs.length := by rw [List.take_take, Nat.min_eq_left (by omega)]
        rw [h5, h4, hG, List.map_append, List.take_left' (by simp)]
    · simp only [Ad.pop, if_neg e] at hi2 ⊢
      exact ownsRow_same (h.own i hi2) (fun k hk => hf.block k (h.mlt (.inr (.inr (.inr (.inr ⟨i, hi2, hk⟩))))) (fun q => (h.own_ne hi2).2.2.2 (by rw [hk, q])))
  · intro i j hi2 hj2 hij
    rw [hob, hob] at hij
    exact h.apart i j (hGi i hi2) (hGi j hj2) hij
  · intro i
    by_cases e : i = c
    · subst e
      have := h.few i
      rw [hG] at this
      simp at this
      simp only [Ad.pop, if_pos]
      omega
    · simp only [Ad.pop, if_neg e]
      exact h.few i
  · intro i q hq
    by_cases e : i = c
    · subst e
      simp only [Ad.pop, if_pos] at hq
      exact h.gin i q (by rw [hG]; exact List.mem_append_left _ hq)
    · simp only [Ad.pop, if_neg e] at hq
      exact h.gin i q hq
theorem pop_fg (d : Ad) (c : Nat) (xs : List Nat) (v : Value) (x : Int) : (d.pop c xs v).fg x = if x = (c : Int) then (if xs = [] then none else some v) else d.fg x := by
  unfold Ad.fg Ad.pop
  by_cases h : 0 ≤ x
  · obtain ⟨k, rfl⟩ := Int.eq_ofNat_of_zero_le h
    rw [if_pos h, if_pos h, Int.toNat_natCast]
    by_cases e : k = c
    · subst e; simp
    · have : ¬ ((k : Int) = (c : Int)) := by omega
      simp only [if_neg e, if_neg this]
  · rw [if_neg h, if_neg h, if_neg (by omega)]
set_option maxHeartbeats 2000000 in
set_option maxRecDepth 100000 in
theorem again_yes (a bb rm gm : Nat) (d : Ad) (c : Nat) (xs : List Nat) (p : Nat) (w : World) (h : Are w a bb rm gm d) (hc : c ≤ 4194304) (hG : d.G c = xs ++ [p]) (ho : d.ops < 1000000) :
    Calls Tryz.prog 133 #[.pointer (some ⟨a, 0, none⟩), .int .i64 c] w (AgPost a bb rm gm d c p xs w) := by
  have hne : d.G c ≠ [] := by rw [hG]; simp
  have c2 : w.cell? ⟨a, 2, none⟩ = some (.map (some gm)) := h.blk.cell 2
  obtain ⟨n, hn, hi⟩ := h.given
  obtain ⟨g, cap, cur, hV, hg, h1, h2, h3, h4⟩ := h.row hne
  have hl : (d.G c).length = xs.length + 1 := by rw [hG]; simp
  have hfew := h.few c
  rw [hl] at hV h1 h4 hfew
  have hcell : w.cell? ⟨g, xs.length, none⟩ = some (.int .i64 p) := by
    rw [hg.cell, ← Array.getElem?_toList]
    have h5 : cur.toList[xs.length]? = (cur.toList.take (xs.length + 1))[xs.length]? := by rw [List.getElem?_take_of_lt (by omega)]
    rw [h5, h4, hG]
    simp [I64]
  have HI := Lib.hid hi
  have HJ : Hid ((Lit.int .i64 (c : Int)).wf = true) := Lib.hid (WalkArith.wf_i64 (by omega))
  have HG := Lib.hid hG
  have HV := Lib.hid hV
  have HF : Hid (d.fg (c : Int) = some (.slice (some ⟨g, 0, none⟩) (xs.length + 1) cap)) := Lib.hid (by rw [Ad.fg_nat, if_neg hne, hV])
  have H := Lib.hid h
  have hcap : cap ≤ 9223372036854775807 := h2
  clear h hi hG hV hl hg h2 h3 h4 hne
  by_cases hx : xs = []
  · subst hx
    have hcell' : w.cell? ⟨g, 0, none⟩ = some (.int .i64 p) := hcell
    have HF' : Hid (d.fg (c : Int) = some (.slice (some ⟨g, 0, none⟩) 1 cap)) := HF
    clear hcell
    go_enter Tryz.func133, Tryz.ntmps133
    go_wp2_with (first
      | (at_lookup; refine wpList_lookup_im _ rfl _ _ 94 false rfl 3 48 Tryz.underlying3 Tryz.underlying94 (zero48 _) gm n d.fg rfl HI.out (c : Int) rfl HJ.out ?_; rw [if_neg (by decide), HF'.out, Option.getD_some])
      | (at_delete
         refine wpList_delete_im _ rfl _ _ 94 3 rfl 48 Tryz.underlying3 Tryz.underlying94 gm n d.fg rfl HI.out (c : Int) rfl HJ.out ?_
         intro w2 him hturn
         have hf := turned_fr hturn
         have HA : Hid (Are w2 a bb rm gm (d.pop c [] (.slice (some ⟨g, 0, none⟩) 0 cap)) ∧ Fr (· = gm) w w2) := Lib.hid (by
           refine ⟨H.out.pop (xs := []) (p := p) HG.out HV.out hf (n := if (d.fg (c : Int)).isSome then n - 1 else n) ?_ (him.congr (fun x _ => by rw [pop_fg]; simp)), hf⟩
           split <;> omega)
         clear him hturn hf))
    go_ret2
    exact ⟨_, rfl, HA.out.1, HA.out.2, by rw [HV.out]; rfl⟩
  · have hk : 0 < xs.length := List.length_pos_iff.2 hx
    obtain ⟨k, hkk⟩ : ∃ k, k = xs.length := ⟨_, rfl⟩
    rw [← hkk] at hcell HF hk h1 hfew
    have HK := Lib.hid hkk
    obtain ⟨w2, hrun, him, hturn⟩ := (HI.out.drewN 1).store Tryz.underlying3 Tryz.underlying94 (by unfold maxLen; omega) (c : Int) HJ.out (.slice (some ⟨g, 0, none⟩) k cap)
    have hf := turned_fr hturn
    have HA : Hid (Are w2 a bb rm gm (d.pop c xs (.slice (some ⟨g, 0, none⟩) xs.length cap)) ∧ Fr (· = gm) w w2) := Lib.hid (by
      refine ⟨(H.out.drewN 1).pop HG.out HV.out hf (n := if (d.fg (c : Int)).isSome then n else n + 1) ?_ (him.congr (fun x _ => by rw [pop_fg, ← hkk]; simp [hx])), hf.undrewN⟩
      rw [HF.out]; simpa using hn)
    have hrun' : (Instr.mapUpdate 94 (.map (some gm)) (.int .i64 (c : Int)) (.slice (some ⟨g, 0, none⟩) k cap)).run Tryz.prog w.drew = .ok () w2 := hrun
    have hz : ((k : Int) == 0) = false := by simp; omega
    clear him hturn hf hkk hx hrun
    go_enter Tryz.func133, Tryz.ntmps133
    go_wp2_with (first
      | (at_lookup; refine wpList_lookup_im _ rfl _ _ 94 false rfl 3 48 Tryz.underlying3 Tryz.underlying94 (zero48 _) gm n d.fg rfl HI.out (c : Int) rfl HJ.out ?_; rw [if_neg (by decide), HF.out, Option.getD_some]))
    go_region
    all_goals
      go_wp2
      go_ret2
      exact ⟨_, rfl, HA.out.1, HA.out.2, by rw [HV.out]; rfl⟩
end Go.Proofs.YtahbnhhdpcieiaaGreatDoor
