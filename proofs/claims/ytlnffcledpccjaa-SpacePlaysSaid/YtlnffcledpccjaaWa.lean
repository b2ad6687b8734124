/-
  What is known of an arena: its struct, its bytes, its two maps and the rows of places that were given back; again, cut.
-/
import Derived.Test.YtlnffcledpccjaaAa
namespace Go.Proofs.Ytlnffcledpccjaa
open Go.RowKit
set_option linter.unusedVariables false
def I64 (x : Nat) : Value := .int .i64 (x : Nat)
/-- an arena as it is told: rooms that are taken (R: place to class), places that were given back (G: class to places, the last one last; V: the slice that holds them), its bytes -/
structure Ad where
  sz : Nat
  live : Int
  height : Nat
  ops : Nat
  R : Nat → Option Nat
  G : Nat → List Nat
  V : Nat → Value
  mem : List Nat
def arC (bb rm gm : Nat) (d : Ad) : Array Value := #[.slice (some ⟨bb, 0, none⟩) d.sz d.sz, .map (some rm), .map (some gm), .int .i64 d.live, .int .i64 d.height]
def Ad.fr (d : Ad) (j : Int) : Option Value := if 0 ≤ j then (d.R j.toNat).map I64 else none
def Ad.fg (d : Ad) (j : Int) : Option Value := if 0 ≤ j then (if d.G j.toNat = [] then none else some (d.V j.toNat)) else none
structure Are (w : World) (a bb rm gm : Nat) (d : Ad) : Prop where
  blk : Blk w a 84 (arC bb rm gm d)
  byt : Blk w bb 5 (d.mem.map U8).toArray
  len : d.mem.length = d.sz
  all : ∀ x ∈ d.mem, x < 256
  lim : d.sz ≤ 4194304
  rooms : ∃ n, n ≤ d.ops ∧ IM w Try.prog 3 rm n d.fr
  given : ∃ n, n ≤ d.ops ∧ IM w Try.prog 3 gm n d.fg
  own : ∀ c, d.G c ≠ [] → w.ownsRow 0 3 1 (d.V c) (d.G c).length ((d.G c).map I64)
  apart : ∀ c c', d.G c ≠ [] → d.G c' ≠ [] → (d.V c).ownBlock = (d.V c').ownBlock → c = c'
  few : ∀ c, (d.G c).length ≤ d.ops
  rin : ∀ p c, d.R p = some c → p + c ≤ d.height ∧ 16 ≤ c ∧ c ≤ 4194304
  gin : ∀ c p, p ∈ d.G c → p + c ≤ d.height
  hsz : d.height ≤ d.sz
  liv1 : -(d.ops * 4194304) ≤ d.live
  liv2 : d.live ≤ d.ops * 4194304
  rg : rm ≠ gm
/-- a slice that holds places leads to a row -/
theorem own_row {w : World} {v : Value} {n : Nat} {xs : List Value} (h : w.ownsRow 0 3 1 v n xs) (hn : 0 < n) : ∃ g cap cur, v = .slice (some ⟨g, 0, none⟩) n cap ∧ Blk w g 3 cur ∧ n ≤ cap ∧ cap ≤ maxLen ∧ cur.size = cap ∧ cur.toList.take n = xs := by
  rcases h.2 with ⟨_, h0⟩ | ⟨g, cap, cur, e, _, hg, h1, h2, h3, h4⟩
  · omega
  · exact ⟨g, cap, cur, e, hg, h1, h2, by simpa using h3, by simpa using h4⟩
section
variable {w w' : World} {a bb rm gm : Nat} {d : Ad}
theorem Are.row (h : Are w a bb rm gm d) {c : Nat} (hc : d.G c ≠ []) : ∃ g cap cur, d.V c = .slice (some ⟨g, 0, none⟩) (d.G c).length cap ∧ Blk w g 3 cur ∧ (d.G c).length ≤ cap ∧ cap ≤ maxLen ∧ cur.size = cap ∧ cur.toList.take (d.G c).length = (d.G c).map I64 :=
  own_row (h.own c hc) (List.length_pos_iff.2 hc)
def Ad.mine (a bb rm gm : Nat) (d : Ad) (k : Nat) : Prop := k = a ∨ k = bb ∨ k = rm ∨ k = gm ∨ ∃ c, d.G c ≠ [] ∧ (d.V c).ownBlock = some k
theorem Are.ab (h : Are w a bb rm gm d) : bb ≠ a := h.byt.ne_ h.blk (by decide)
theorem Are.ra (h : Are w a bb rm gm d) : rm ≠ a := by obtain ⟨n, _, hi⟩ := h.rooms; exact hi.ne_ h.blk
theorem Are.ga (h : Are w a bb rm gm d) : gm ≠ a := by obtain ⟨n, _, hi⟩ := h.given; exact hi.ne_ h.blk
theorem Are.rb (h : Are w a bb rm gm d) : rm ≠ bb := by obtain ⟨n, _, hi⟩ := h.rooms; exact hi.ne_ h.byt
theorem Are.gb (h : Are w a bb rm gm d) : gm ≠ bb := by obtain ⟨n, _, hi⟩ := h.given; exact hi.ne_ h.byt
theorem Are.own_ne (h : Are w a bb rm gm d) {c : Nat} (hc : d.G c ≠ []) : (d.V c).ownBlock ≠ some a ∧ (d.V c).ownBlock ≠ some bb ∧ (d.V c).ownBlock ≠ some rm ∧ (d.V c).ownBlock ≠ some gm := by
  obtain ⟨g, cap, cur, e, hg, _⟩ := h.row hc
  obtain ⟨n, _, hi⟩ := h.rooms
  obtain ⟨n', _, hi'⟩ := h.given
  rw [e]
  refine ⟨fun q => ?_, fun q => ?_, fun q => ?_, fun q => ?_⟩ <;> (simp only [Value.ownBlock, Option.some.injEq] at q; subst q)
  · exact hg.ne_ h.blk (by decide) rfl
  · exact hg.ne_ h.byt (by decide) rfl
  · exact hi.ne_ hg rfl
  · exact hi'.ne_ hg rfl
theorem Are.mlt (h : Are w a bb rm gm d) {k : Nat} (hk : d.mine a bb rm gm k) : k < w.heap.size := by
  obtain ⟨n, _, hi⟩ := h.rooms
  obtain ⟨n', _, hi'⟩ := h.given
  rcases hk with rfl | rfl | rfl | rfl | ⟨c, hc, e⟩
  · exact h.blk.lt
  · exact h.byt.lt
  · exact hi.lt
  · exact hi'.lt
  · obtain ⟨g, cap, cur, e', hg, _⟩ := h.row hc
    rw [e'] at e
    simp only [Value.ownBlock, Option.some.injEq] at e
    subst e
    exact hg.lt
theorem ownsRow_same {v : Value} {n : Nat} {xs : List Value} (h : w.ownsRow 0 3 1 v n xs) (hb : ∀ k, v.ownBlock = some k → w'.heap[k]? = w.heap[k]?) : w'.ownsRow 0 3 1 v n xs := by
  refine ⟨h.1, ?_⟩
  rcases h.2 with h0 | ⟨g, cap, cur, e, h1, hg, h2⟩
  · exact .inl h0
  · subst e
    exact .inr ⟨g, cap, cur, rfl, h1, (hb g rfl).trans hg, h2⟩
theorem Are.same (h : Are w a bb rm gm d) (hb : ∀ k, d.mine a bb rm gm k → w'.heap[k]? = w.heap[k]?) : Are w' a bb rm gm d := by
  obtain ⟨n, hn, hi⟩ := h.rooms
  obtain ⟨n', hn', hi'⟩ := h.given
  exact ⟨(hb a (.inl rfl)).trans h.blk, (hb bb (.inr (.inl rfl))).trans h.byt, h.len, h.all, h.lim, ⟨n, hn, hi.same (hb rm (.inr (.inr (.inl rfl))))⟩, ⟨n', hn', hi'.same (hb gm (.inr (.inr (.inr (.inl rfl)))))⟩,
    fun c hc => ownsRow_same (h.own c hc) (fun k hk => hb k (.inr (.inr (.inr (.inr ⟨c, hc, hk⟩))))), h.apart, h.few, h.rin, h.gin, h.hsz, h.liv1, h.liv2, h.rg⟩
theorem Are.drewN (h : Are w a bb rm gm d) (k : Nat) : Are (w.drewN k) a bb rm gm d := h.same fun _ _ => rfl
theorem Are.fr {S : Nat → Prop} (h : Are w a bb rm gm d) (hf : Fr S w w') (hS : ∀ k, d.mine a bb rm gm k → ¬ S k) : Are w' a bb rm gm d := h.same fun k hk => hf.block k (h.mlt hk) (hS k hk)
theorem Are.below (h : Are w a bb rm gm d) {B : Nat} (hb : Below B w w') (hB : w.heap.size ≤ B) : Are w' a bb rm gm d := h.same fun k hk => hb.block k (Nat.lt_of_lt_of_le (h.mlt hk) hB)
theorem Are.alloc (h : Are w a bb rm gm d) (o : Obj) : Are (w.alloc o) a bb rm gm d := h.below ((Below.refl _ _).alloc (Nat.le_refl _) o) (Nat.le_refl _)
end
theorem zero61 (w : World) : (zeroValue 96).run Try.prog w = .ok (.slice none 0 0) w := by kernel_rfl
theorem zero3 (w : World) : (zeroValue 3).run Try.prog w = .ok (.int .i64 0) w := by kernel_rfl
theorem Ad.fg_nat (d : Ad) (c : Nat) : d.fg (c : Int) = if d.G c = [] then none else some (d.V c) := by
  unfold Ad.fg
  rw [if_pos (Int.natCast_nonneg c), Int.toNat_natCast]
theorem Ad.fr_nat (d : Ad) (p : Nat) : d.fr (p : Int) = (d.R p).map I64 := by
  unfold Ad.fr
  rw [if_pos (Int.natCast_nonneg p), Int.toNat_natCast]
/-- of class c the last one of those that were given back is taken away -/
def Ad.pop (d : Ad) (c : Nat) (xs : List Nat) (v : Value) : Ad := { d with G := fun i => if i = c then xs else d.G i, V := fun i => if i = c then v else d.V i }
set_option maxHeartbeats 1000000 in
set_option maxRecDepth 100000 in
theorem again_no (a bb rm gm : Nat) (d : Ad) (c : Nat) (w : World) (h : Are w a bb rm gm d) (hc : c ≤ 4194304) (hG : d.G c = []) :
    Calls Try.prog 74 #[.pointer (some ⟨a, 0, none⟩), .int .i64 c] w fun e w' => e = .returned (.tuple #[.int .i64 0, .int .i64 7]) ∧ w = w' := by
  have c2 : w.cell? ⟨a, 2, none⟩ = some (.map (some gm)) := h.blk.cell 2
  obtain ⟨n, hn, hi⟩ := h.given
  have HI := Lib.hid hi
  have HJ : Hid ((Lit.int .i64 (c : Int)).wf = true) := Lib.hid (WalkArith.wf_i64 (by omega))
  have HG := Lib.hid hG
  clear h hi hG
  go_enter Try.func74, Try.ntmps74
  go_wp2_with (at_lookup; refine wpList_lookup_im _ rfl _ _ 82 false rfl 3 96 Try.underlying3 Try.underlying82 (zero61 _) gm n d.fg rfl HI.out (c : Int) rfl HJ.out ?_; rw [if_neg (by decide), Ad.fg_nat, if_pos HG.out, Option.getD_none])
  go_ret2
  exact ⟨rfl, rfl⟩
def AgPost (a bb rm gm : Nat) (d : Ad) (c p : Nat) (xs : List Nat) (w : World) (e : Ending) (w' : World) : Prop :=
  ∃ v, e = .returned (.tuple #[.int .i64 p, .int .i64 0]) ∧ Are w' a bb rm gm (d.pop c xs v) ∧ Fr (· = gm) w w' ∧ v.ownBlock = (d.V c).ownBlock
theorem Are.pop {w w' : World} {a bb rm gm c g cap : Nat} {d : Ad} {xs : List Nat} {p : Nat} (h : Are w a bb rm gm d) (hG : d.G c = xs ++ [p]) (hV : d.V c = .slice (some ⟨g, 0, none⟩) (xs.length + 1) cap) (hf : Fr (· = gm) w w')
    {n : Nat} (hn : n ≤ d.ops) (hi : IM w' Try.prog 3 gm n (d.pop c xs (.slice (some ⟨g, 0, none⟩) xs.length cap)).fg) : Are w' a bb rm gm (d.pop c xs (.slice (some ⟨g, 0, none⟩) xs.length cap)) := by
  have hne : d.G c ≠ [] := by rw [hG]; simp
  have hoc := h.own_ne hne
  obtain ⟨n0, hn0, hi0⟩ := h.rooms
  have hGi : ∀ i, (d.pop c xs (.slice (some ⟨g, 0, none⟩) xs.length cap)).G i ≠ [] → d.G i ≠ [] := fun i hi => by
    by_cases e : i = c
    · rw [e]; exact hne
    · simpa [Ad.pop, e] using hi
  have hob : ∀ i, ((d.pop c xs (.slice (some ⟨g, 0, none⟩) xs.length cap)).V i).ownBlock = (d.V i).ownBlock := fun i => by
    by_cases e : i = c
    · simp only [Ad.pop, e, if_pos]; rw [hV]; rfl
    · simp [Ad.pop, e]
  refine ⟨h.blk.fr hf (Ne.symm h.ga), h.byt.fr hf (Ne.symm h.gb), h.len, h.all, h.lim, ⟨n0, hn0, hi0.fr hf h.rg⟩, ⟨n, hn, hi⟩, ?_, ?_, ?_, h.rin, ?_, h.hsz, h.liv1, h.liv2, h.rg⟩
  · intro i hi2
    by_cases e : i = c
    · subst e
      simp only [Ad.pop, if_pos] at hi2 ⊢
      have ho := h.own i hne
      obtain ⟨g', cap', cur, e', hg, h1, h2, h3, h4⟩ := h.row hne
      rw [hV] at e'
      injection e' with e1 e2 e3
      injection e1 with e1
      injection e1 with e1
      subst e1
      subst e3
      have hl : (d.G i).length = xs.length + 1 := by rw [hG]; simp
      rw [hl] at h1 h4
      refine ⟨by simp, .inr ⟨g, cap, cur, rfl, Nat.zero_le _, ?_, by omega, h2, by simpa using h3, ?_⟩⟩
      · exact hg.fr hf (fun q => hoc.2.2.2 (by rw [hV, ← q]; rfl))
      · rw [Nat.mul_one]
        have h5 : cur.toList.take xs.length = (cur.toList.take (xs.length + 1)).take xs.length := by rw [List.take_take, Nat.min_eq_left (by omega)]
        rw [h5, h4, hG, List.map_append, List.take_left' (by simp)]
    · simp only [Ad.pop, if_neg e] at hi2 ⊢
      exact ownsRow_same (h.own i hi2) (fun k hk => hf.block k (h.mlt (.inr (.inr (.inr (.inr ⟨i, hi2, hk⟩))))) (fun q => (h.own_ne hi2).2.2.2 (by rw [hk, q])))
  · intro i j hi2 hj2 hij
    rw [hob, hob] at hij
    exact h.apart i j (hGi i hi2) (hGi j hj2) hij
  · intro i
    by_cases e : i = c
    · subst e
      have := h.few i
      rw [hG] at this
      simp at this
      simp only [Ad.pop, if_pos]
      omega
    · simp only [Ad.pop, if_neg e]
      exact h.few i
  · intro i q hq
    by_cases e : i = c
    · subst e
      simp only [Ad.pop, if_pos] at hq
      exact h.gin i q (by rw [hG]; exact List.mem_append_left _ hq)
    · simp only [Ad.pop, if_neg e] at hq
      exact h.gin i q hq
theorem pop_fg (d : Ad) (c : Nat) (xs : List Nat) (v : Value) (x : Int) : (d.pop c xs v).fg x = if x = (c : Int) then (if xs = [] then none else some v) else d.fg x := by
  unfold Ad.fg Ad.pop
  by_cases h : 0 ≤ x
  · obtain ⟨k, rfl⟩ := Int.eq_ofNat_of_zero_le h
    rw [if_pos h, if_pos h, Int.toNat_natCast]
    by_cases e : k = c
    · subst e; simp
    · have : ¬ ((k : Int) = (c : Int)) := by omega
      simp only [if_neg e, if_neg this]
  · rw [if_neg h, if_neg h, if_neg (by omega)]
set_option maxHeartbeats 2000000 in
set_option maxRecDepth 100000 in
theorem again_yes (a bb rm gm : Nat) (d : Ad) (c : Nat) (xs : List Nat) (p : Nat) (w : World) (h : Are w a bb rm gm d) (hc : c ≤ 4194304) (hG : d.G c = xs ++ [p]) (ho : d.ops < 1000000) :
    Calls Try.prog 74 #[.pointer (some ⟨a, 0, none⟩), .int .i64 c] w (AgPost a bb rm gm d c p xs w) := by
  have hne : d.G c ≠ [] := by rw [hG]; simp
  have c2 : w.cell? ⟨a, 2, none⟩ = some (.map (some gm)) := h.blk.cell 2
  obtain ⟨n, hn, hi⟩ := h.given
  obtain ⟨g, cap, cur, hV, hg, h1, h2, h3, h4⟩ := h.row hne
  have hl : (d.G c).length = xs.length + 1 := by rw [hG]; simp
  have hfew := h.few c
  rw [hl] at hV h1 h4 hfew
  have hcell : w.cell? ⟨g, xs.length, none⟩ = some (.int .i64 p) := by
    rw [hg.cell, ← Array.getElem?_toList]
    have h5 : cur.toList[xs.length]? = (cur.toList.take (xs.length + 1))[xs.length]? := by rw [List.getElem?_take_of_lt (by omega)]
    rw [h5, h4, hG]
    simp [I64]
  have HI := Lib.hid hi
  have HJ : Hid ((Lit.int .i64 (c : Int)).wf = true) := Lib.hid (WalkArith.wf_i64 (by omega))
  have HG := Lib.hid hG
  have HV := Lib.hid hV
  have HF : Hid (d.fg (c : Int) = some (.slice (some ⟨g, 0, none⟩) (xs.length + 1) cap)) := Lib.hid (by rw [Ad.fg_nat, if_neg hne, hV])
  have H := Lib.hid h
  have hcap : cap ≤ 9223372036854775807 := h2
  clear h hi hG hV hl hg h2 h3 h4 hne
  by_cases hx : xs = []
  · subst hx
    have hcell' : w.cell? ⟨g, 0, none⟩ = some (.int .i64 p) := hcell
    have HF' : Hid (d.fg (c : Int) = some (.slice (some ⟨g, 0, none⟩) 1 cap)) := HF
    clear hcell
    go_enter Try.func74, Try.ntmps74
    go_wp2_with (first
      | (at_lookup; refine wpList_lookup_im _ rfl _ _ 82 false rfl 3 96 Try.underlying3 Try.underlying82 (zero61 _) gm n d.fg rfl HI.out (c : Int) rfl HJ.out ?_; rw [if_neg (by decide), HF'.out, Option.getD_some])
      | (at_delete
         refine wpList_delete_im _ rfl _ _ 82 3 rfl 96 Try.underlying3 Try.underlying82 gm n d.fg rfl HI.out (c : Int) rfl HJ.out ?_
         intro w2 him hturn
         have hf := turned_fr hturn
         have HA : Hid (Are w2 a bb rm gm (d.pop c [] (.slice (some ⟨g, 0, none⟩) 0 cap)) ∧ Fr (· = gm) w w2) := Lib.hid (by
           refine ⟨H.out.pop (xs := []) (p := p) HG.out HV.out hf (n := if (d.fg (c : Int)).isSome then n - 1 else n) ?_ (him.congr (fun x _ => by rw [pop_fg]; simp)), hf⟩
           split <;> omega)
         clear him hturn hf))
    go_ret2
    exact ⟨_, rfl, HA.out.1, HA.out.2, by rw [HV.out]; rfl⟩
  · have hk : 0 < xs.length := List.length_pos_iff.2 hx
    obtain ⟨k, hkk⟩ : ∃ k, k = xs.length := ⟨_, rfl⟩
    rw [← hkk] at hcell HF hk h1 hfew
    have HK := Lib.hid hkk
    obtain ⟨w2, hrun, him, hturn⟩ := (HI.out.drewN 1).store Try.underlying3 Try.underlying82 (by unfold maxLen; omega) (c : Int) HJ.out (.slice (some ⟨g, 0, none⟩) k cap)
    have hf := turned_fr hturn
    have HA : Hid (Are w2 a bb rm gm (d.pop c xs (.slice (some ⟨g, 0, none⟩) xs.length cap)) ∧ Fr (· = gm) w w2) := Lib.hid (by
      refine ⟨(H.out.drewN 1).pop HG.out HV.out hf (n := if (d.fg (c : Int)).isSome then n else n + 1) ?_ (him.congr (fun x _ => by rw [pop_fg, ← hkk]; simp [hx])), hf.undrewN⟩
      rw [HF.out]; simpa using hn)
    have hrun' : (Instr.mapUpdate 82 (.map (some gm)) (.int .i64 (c : Int)) (.slice (some ⟨g, 0, none⟩) k cap)).run Try.prog w.drew = .ok () w2 := hrun
    have hz : ((k : Int) == 0) = false := by simp; omega
    clear him hturn hf hkk hx hrun
    go_enter Try.func74, Try.ntmps74
    go_wp2_with (first
      | (at_lookup; refine wpList_lookup_im _ rfl _ _ 82 false rfl 3 96 Try.underlying3 Try.underlying82 (zero61 _) gm n d.fg rfl HI.out (c : Int) rfl HJ.out ?_; rw [if_neg (by decide), HF.out, Option.getD_some]))
    go_region
    all_goals
      go_wp2
      go_ret2
      exact ⟨_, rfl, HA.out.1, HA.out.2, by rw [HV.out]; rfl⟩
end Go.Proofs.Ytlnffcledpccjaa
/-
  arena.Arena.cut, Take.
-/
namespace Go.Proofs.Ytlnffcledpccjaa
open Go.RowKit
set_option linter.unusedVariables false
def Ad.cut (d : Ad) (c : Nat) : Ad := { d with height := d.height + c }
def zeroM (mem : List Nat) (p c : Nat) : List Nat := mem.take p ++ (List.replicate c 0 ++ mem.drop (p + c))
/-- a room of class c that begins at p is taken -/
def Ad.take (d : Ad) (p c : Nat) : Ad := { d with live := d.live + c, ops := d.ops + 1, R := fun i => if i = p then some c else d.R i, mem := zeroM d.mem p c }
set_option maxHeartbeats 1000000 in
set_option maxRecDepth 100000 in
theorem cut_no (a bb rm gm : Nat) (d : Ad) (c : Nat) (w : World) (h : Are w a bb rm gm d) (hc : c ≤ 4194304) (hh : d.sz < d.height + c) :
    Calls Try.prog 75 #[.pointer (some ⟨a, 0, none⟩), .int .i64 c] w fun e w' => e = .returned (.tuple #[.int .i64 0, .int .i64 8]) ∧ ∃ k, w.drewN k = w' := by
  have c0 : w.cell? ⟨a, 0, none⟩ = some (.slice (some ⟨bb, 0, none⟩) d.sz d.sz) := h.blk.cell 0
  have c4 : w.cell? ⟨a, 4, none⟩ = some (.int .i64 d.height) := h.blk.cell 4
  have h1 := h.hsz
  have h2 := h.lim
  clear h
  go_enter Try.func75, Try.ntmps75
  go_wp2
  go_quiet (fail)
  go_wp2
  go_ret2
  exact ⟨rfl, _, rfl⟩
theorem Are.cut {w w' : World} {a bb rm gm : Nat} {d : Ad} {c : Nat} (h : Are w a bb rm gm d) (hh : d.height + c ≤ d.sz) (hb : Blk w' a 84 (arC bb rm gm (d.cut c))) (hf : Fr (· = a) w w') : Are w' a bb rm gm (d.cut c) := by
  obtain ⟨n, hn, hi⟩ := h.rooms
  obtain ⟨n', hn', hi'⟩ := h.given
  refine ⟨hb, h.byt.fr hf h.ab, h.len, h.all, h.lim, ⟨n, hn, hi.fr hf h.ra⟩, ⟨n', hn', hi'.fr hf h.ga⟩, ?_, h.apart, h.few, ?_, ?_, hh, h.liv1, h.liv2, h.rg⟩
  · intro i hi2
    exact ownsRow_same (h.own i hi2) (fun k hk => hf.block k (h.mlt (.inr (.inr (.inr (.inr ⟨i, hi2, hk⟩))))) (fun q => (h.own_ne hi2).1 (hk.trans (congrArg some q))))
  · intro p c' hp
    have := h.rin p c' hp
    exact ⟨by simp only [Ad.cut]; omega, this.2⟩
  · intro c' p hp
    have := h.gin c' p hp
    simp only [Ad.cut]
    omega
set_option maxHeartbeats 1000000 in
set_option maxRecDepth 100000 in
theorem cut_yes (a bb rm gm : Nat) (d : Ad) (c : Nat) (w : World) (h : Are w a bb rm gm d) (hc : c ≤ 4194304) (hh : d.height + c ≤ d.sz) :
    Calls Try.prog 75 #[.pointer (some ⟨a, 0, none⟩), .int .i64 c] w fun e w' => e = .returned (.tuple #[.int .i64 d.height, .int .i64 0]) ∧ Are w' a bb rm gm (d.cut c) ∧ Fr (· = a) w w' := by
  have c0 : w.cell? ⟨a, 0, none⟩ = some (.slice (some ⟨bb, 0, none⟩) d.sz d.sz) := h.blk.cell 0
  have c4 : w.cell? ⟨a, 4, none⟩ = some (.int .i64 d.height) := h.blk.cell 4
  have z4 := h.blk.frozen 4
  have h1 := h.hsz
  have h2 := h.lim
  have H := Lib.hid h
  clear h
  go_enter Try.func75, Try.ntmps75
  go_wp2
  go_quiet (fail)
  go_wp2
  go_ret2
  have hf : Fr (· = a) w ((w.drewN nq).setCell ⟨a, 4, none⟩ (.int .i64 ((d.height : Int) + (c : Int)))) := ((Fr.refl (· = a) w).drewN nq).set_ (p := ⟨a, 4, none⟩) rfl _
  refine ⟨rfl, Are.cut H.out hh ?_ hf, hf⟩
  exact ((H.out.drewN nq).blk.set_ 4 _)
theorem zeroM_len {mem : List Nat} {p c : Nat} (h : p + c ≤ mem.length) : (zeroM mem p c).length = mem.length := by
  unfold zeroM
  simp
  omega
theorem zeroM_all {mem : List Nat} {p c : Nat} (h : ∀ x ∈ mem, x < 256) : ∀ x ∈ zeroM mem p c, x < 256 := by
  intro x hx
  unfold zeroM at hx
  rw [List.mem_append, List.mem_append] at hx
  rcases hx with hx | hx | hx
  · exact h x (List.mem_of_mem_take hx)
  · have := List.eq_of_mem_replicate hx
    omega
  · exact h x (List.mem_of_mem_drop hx)
theorem zeroM_map (mem : List Nat) (p c : Nat) : (zeroM mem p c).map U8 = splice (mem.map U8) p (List.replicate c (.int .u8 0)) := by
  unfold zeroM splice
  simp [U8, List.map_take, List.map_drop]
theorem take_fr (d : Ad) (p c : Nat) (x : Int) : (d.take p c).fr x = if x = (p : Int) then some (I64 c) else d.fr x := by
  unfold Ad.fr Ad.take
  by_cases h : 0 ≤ x
  · obtain ⟨k, rfl⟩ := Int.eq_ofNat_of_zero_le h
    rw [if_pos h, if_pos h, Int.toNat_natCast]
    by_cases e : k = p
    · subst e; simp
    · have : ¬ ((k : Int) = (p : Int)) := by omega
      simp only [if_neg e, if_neg this]
  · rw [if_neg h, if_neg h, if_neg (by omega)]
def arb (a bb rm gm : Nat) (k : Nat) : Prop := k = a ∨ k = bb ∨ k = rm ∨ k = gm
theorem Are.take {w w' : World} {a bb rm gm : Nat} {d : Ad} {p c : Nat} (h : Are w a bb rm gm d) (hp : p + c ≤ d.height) (h16 : 16 ≤ c) (hc : c ≤ 4194304) (hb : Blk w' a 84 (arC bb rm gm (d.take p c)))
    (hm : Blk w' bb 5 ((zeroM d.mem p c).map U8).toArray) {n : Nat} (hn : n ≤ d.ops + 1) (hi : IM w' Try.prog 3 rm n (d.take p c).fr) (hf : Fr (fun k => k = a ∨ k = bb ∨ k = rm) w w') : Are w' a bb rm gm (d.take p c) := by
  obtain ⟨n', hn', hi'⟩ := h.given
  have hsz := h.hsz
  have hlen := h.len
  have hl1 := h.liv1
  have hl2 := h.liv2
  refine ⟨hb, hm, by rw [show (d.take p c).mem = zeroM d.mem p c from rfl, zeroM_len (by omega)]; exact h.len, zeroM_all h.all, h.lim, ⟨n, hn, hi⟩, ⟨n', Nat.le_succ_of_le hn', hi'.fr hf ?_⟩, ?_, h.apart, fun i => Nat.le_succ_of_le (h.few i), ?_, h.gin, h.hsz, ?_, ?_, h.rg⟩
  · rintro (q | q | q)
    · exact h.ga q
    · exact h.gb q
    · exact h.rg q.symm
  · intro i hi2
    refine ownsRow_same (h.own i hi2) (fun k hk => hf.block k (h.mlt (.inr (.inr (.inr (.inr ⟨i, hi2, hk⟩))))) ?_)
    rintro (q | q | q)
    · exact (h.own_ne hi2).1 (hk.trans (congrArg some q))
    · exact (h.own_ne hi2).2.1 (hk.trans (congrArg some q))
    · exact (h.own_ne hi2).2.2.1 (hk.trans (congrArg some q))
  · intro q c' hq
    by_cases e : q = p
    · simp only [Ad.take, if_pos e, Option.some.injEq] at hq
      subst hq
      subst e
      exact ⟨hp, h16, hc⟩
    · simp only [Ad.take, if_neg e] at hq
      exact h.rin q c' hq
  · show -(((d.ops + 1 : Nat) : Int) * 4194304) ≤ d.live + c
    push_cast
    omega
  · show d.live + c ≤ ((d.ops + 1 : Nat) : Int) * 4194304
    push_cast
    omega
set_option maxRecDepth 100000 in
theorem Take_arg (a : Nat) (n : Int) (w : World) (h : n < 0 ∨ (0 ≤ n ∧ 4194304 < n)) :
    Calls Try.prog 60 #[.pointer (some ⟨a, 0, none⟩), .int .i64 n] w fun e w' => e = .returned (.tuple #[.int .i64 0, .int .i64 1]) ∧ w = w' := by
  rcases h with h | ⟨h, h'⟩
  all_goals
    go_enter Try.func60, Try.ntmps60
    go_wp2
    go_ret2
    exact ⟨rfl, rfl⟩
set_option maxHeartbeats 1000000 in
set_option maxRecDepth 100000 in
theorem Take_full (a bb rm gm : Nat) (d : Ad) (n : Int) (w : World) (h : Are w a bb rm gm d) (h0 : 0 ≤ n) (h1 : n ≤ 4194304) (hG : d.G (cl n) = []) (hh : d.sz < d.height + cl n) :
    Calls Try.prog 60 #[.pointer (some ⟨a, 0, none⟩), .int .i64 n] w fun e w' => e = .returned (.tuple #[.int .i64 0, .int .i64 8]) ∧ ∃ k, w.drewN k = w' := by
  have hC := Lib.hid (Class_any n w h1)
  have hA := Lib.hid (again_no a bb rm gm d (cl n) w h (cl_hi n) hG)
  have hU := Lib.hid (cut_no a bb rm gm d (cl n) w h (cl_hi n) hh)
  clear h hG hh
  go_enter Try.func60, Try.ntmps60
  go_wp2_with (first
    | (go_at_call 56; refine hC.out.mono ?_; rintro e w' ⟨rfl, rfl⟩)
    | (go_at_call 74; refine hA.out.mono ?_; rintro e w' ⟨rfl, rfl⟩)
    | (go_at_call 75; refine hU.out.mono ?_; rintro e w' ⟨rfl, k, rfl⟩))
  go_ret2
  exact ⟨rfl, _, rfl⟩
/-- clear of a part of a row of bytes, as an equation on its run -/
theorem clear_run (w : World) (g off n c : Nat) (cur : List Value) (t : TypeId) (hg : Blk w g t cur.toArray) (hn : 0 < n) (hfit : off + n ≤ cur.length) :
    ∃ w', (Builtin.clear_ #[34] 0 #[.slice (some ⟨g, off, none⟩) n c]).run Try.prog w = .ok (.tuple #[]) w' ∧ Hid (Blk w' g t (splice cur off (List.replicate n (.int .u8 0))).toArray) ∧ Fr (· = g) w w' := by
  refine ⟨_, Lib.run_clear_slice (P := Try.prog) w 34 5 0 (.int .u8 0) Try.underlying34 zero5 rfl rfl g off n c hn (fun j hj => by rw [hg.cell]; simp; omega) (fun j _ => hg.frozen _), Lib.hid ?_, fr_setCells _ _ w⟩
  have := blk_setCells (List.replicate n (Value.int .u8 0)) off w cur hg
  rw [setMany'_splice _ _ _ (by simpa using hfit)] at this
  exact this
def TgPost (a bb rm gm : Nat) (d : Ad) (n : Int) (xs : List Nat) (p : Nat) (w : World) (e : Ending) (w' : World) : Prop :=
  ∃ v, e = .returned (.tuple #[.int .i64 p, .int .i64 0]) ∧ Are w' a bb rm gm ((d.pop (cl n) xs v).take p (cl n)) ∧ Fr (arb a bb rm gm) w w' ∧ v.ownBlock = (d.V (cl n)).ownBlock
set_option maxHeartbeats 2000000 in
set_option maxRecDepth 100000 in
theorem Take_given (a bb rm gm : Nat) (d : Ad) (n : Int) (xs : List Nat) (p : Nat) (w : World) (h : Are w a bb rm gm d) (h0 : 0 ≤ n) (h1 : n ≤ 4194304) (hG : d.G (cl n) = xs ++ [p]) (ho : d.ops < 1000000) :
    Calls Try.prog 60 #[.pointer (some ⟨a, 0, none⟩), .int .i64 n] w (TgPost a bb rm gm d n xs p w) := by
  have hC := Lib.hid (Class_any n w h1)
  have hA := Lib.hid (again_yes a bb rm gm d (cl n) xs p w h (cl_hi n) hG ho)
  have hpc : p + cl n ≤ d.height := h.gin (cl n) p (by rw [hG]; simp)
  have hsz := h.hsz
  have hlim := h.lim
  have hl1 := h.liv1
  have hl2 := h.liv2
  have hc1 := cl_lo n
  have hc2 := cl_hi n
  have hL1 : -4194304000000 ≤ d.live := by omega
  have hL2 : d.live ≤ 4194304000000 := by omega
  have HH := Lib.hid hpc
  have HJ : Hid ((Lit.int .i64 (p : Int)).wf = true) := Lib.hid (WalkArith.wf_i64 (by omega))
  obtain ⟨cc, hcc⟩ : ∃ cc, cc = cl n := ⟨_, rfl⟩
  obtain ⟨cur, hcur⟩ : ∃ cur, cur = d.mem.map U8 := ⟨_, rfl⟩
  have HC := Lib.hid hcur
  have HCl : Hid (cur.length = d.sz) := Lib.hid (by rw [hcur, List.length_map]; exact h.len)
  clear h hG hl1 hl2 hcur hcc
  go_enter Try.func60, Try.ntmps60
  go_wp2_with (first
    | (go_at_call 56; refine hC.out.mono ?_; rintro e w' ⟨rfl, rfl⟩)
    | (go_at_call 74
       refine hA.out.mono ?_
       rintro e w1 ⟨v, rfl, h1, hf1, hvo⟩
       have HVO := Lib.hid hvo
       have H1 := Lib.hid h1
       have HF1 := Lib.hid hf1
       obtain ⟨n1, hn1, hi1⟩ := h1.rooms
       have HI1 := Lib.hid hi1
       have HN1 := Lib.hid hn1
       have hn1b : n1 < 2000000 := by simp only [Ad.pop] at hn1; omega
       have t1 : w1.cell? ⟨a, 1, none⟩ = some (.map (some rm)) := H1.out.blk.cell 1
       clear h1 hf1 hi1 hn1 hvo)
    | (at_mapUpdate
       refine wpList_update_im _ rfl _ _ _ 81 rfl 3 3 Try.underlying3 Try.underlying81 rm n1 (d.pop (cl n) xs v).fr rfl HI1.out (by unfold maxLen; omega) (p : Int) (I64 (cl n)) rfl rfl HJ.out ?_
       intro w2 him hturn
       have hf2 := turned_fr hturn
       have HB2 : Hid (Blk w2 a 84 (arC bb rm gm (d.pop (cl n) xs v))) := Lib.hid (H1.out.blk.fr hf2 (Ne.symm H1.out.ra))
       have HI2 : Hid (IM w2 Try.prog 3 rm (if ((d.pop (cl n) xs v).fr (p : Int)).isSome then n1 else n1 + 1) ((d.pop (cl n) xs v).take p (cl n)).fr) := Lib.hid (him.congr (fun x _ => take_fr (d.pop (cl n) xs v) p (cl n) x))
       have HF2 := Lib.hid hf2
       have t3 : w2.cell? ⟨a, 3, none⟩ = some (.int .i64 d.live) := HB2.out.cell 3
       have z3 := HB2.out.frozen 3
       have HB3 : Hid (Blk (w2.setCell ⟨a, 3, none⟩ (.int .i64 (d.live + ((cl n) : Nat)))) a 84 (arC bb rm gm ((d.pop (cl n) xs v).take p (cl n)))) := Lib.hid (HB2.out.set_ 3 _)
       have HM3 : Hid (Blk (w2.setCell ⟨a, 3, none⟩ (.int .i64 (d.live + ((cl n) : Nat)))) bb 5 cur.toArray) := Lib.hid (by
         rw [HC.out]
         exact (H1.out.byt.fr hf2 (Ne.symm H1.out.rb)).far (p := ⟨a, 3, none⟩) H1.out.ab _)
       have t0 : (w2.setCell ⟨a, 3, none⟩ (.int .i64 (d.live + ((cl n) : Nat)))).cell? ⟨a, 0, none⟩ = some (.slice (some ⟨bb, 0, none⟩) d.sz d.sz) := HB3.out.cell 0
       obtain ⟨w4, hcl, hg4, hf4⟩ := clear_run _ bb p (cl n) (d.sz - p) cur 5 HM3.out (by omega) (by rw [HCl.out]; omega)
       have HF4 := Lib.hid hf4
       clear him hturn hf2 hf4))
  go_ret2
  have hm4 : Blk w4 bb 5 ((zeroM (d.pop (cl n) xs v).mem p (cl n)).map U8).toArray := by
    have := hg4.out
    rw [HC.out, ← zeroM_map] at this
    exact this
  have hF : Fr (fun k => k = a ∨ k = bb ∨ k = rm) w1 w4 := by
    refine Fr.trans (Fr.set_ (HF2.out.more (fun k hk => .inr (.inr hk))) (p := ⟨a, 3, none⟩) (.inl rfl) _) (HF4.out.more (fun k hk => .inr (.inl hk)))
  have hA : Are w4 a bb rm gm ((d.pop (cl n) xs v).take p (cl n)) := by
    refine H1.out.take HH.out (cl_lo n) (cl_hi n) (HB3.out.fr HF4.out (Ne.symm H1.out.ab)) hm4 (n := if ((d.pop (cl n) xs v).fr (p : Int)).isSome then n1 else n1 + 1) ?_ ((HI2.out.far (p := ⟨a, 3, none⟩) H1.out.ra _).fr HF4.out H1.out.rb) hF
    have := HN1.out
    split <;> omega
  refine ⟨v, rfl, hA, (HF1.out.more (fun k hk => .inr (.inr (.inr hk)))).trans (hF.more (fun k hk => ?_)), HVO.out⟩
  rcases hk with q | q | q
  · exact .inl q
  · exact .inr (.inl q)
  · exact .inr (.inr (.inl q))
def TcPost (a bb rm gm : Nat) (d : Ad) (n : Int) (w : World) (e : Ending) (w' : World) : Prop :=
  e = .returned (.tuple #[.int .i64 d.height, .int .i64 0]) ∧ Are w' a bb rm gm ((d.cut (cl n)).take d.height (cl n)) ∧ Fr (arb a bb rm gm) w w'
set_option maxHeartbeats 2000000 in
set_option maxRecDepth 100000 in
theorem Take_cut (a bb rm gm : Nat) (d : Ad) (n : Int) (w : World) (h : Are w a bb rm gm d) (h0 : 0 ≤ n) (h1 : n ≤ 4194304) (hG : d.G (cl n) = []) (hh : d.height + cl n ≤ d.sz) (ho : d.ops < 1000000) :
    Calls Try.prog 60 #[.pointer (some ⟨a, 0, none⟩), .int .i64 n] w (TcPost a bb rm gm d n w) := by
  have hC := Lib.hid (Class_any n w h1)
  have hA := Lib.hid (again_no a bb rm gm d (cl n) w h (cl_hi n) hG)
  have hU := Lib.hid (cut_yes a bb rm gm d (cl n) w h (cl_hi n) hh)
  have hsz := h.hsz
  have hlim := h.lim
  have hl1 := h.liv1
  have hl2 := h.liv2
  have hc1 := cl_lo n
  have hc2 := cl_hi n
  have hL1 : -4194304000000 ≤ d.live := by omega
  have hL2 : d.live ≤ 4194304000000 := by omega
  have HH : Hid (d.height + cl n ≤ (d.cut (cl n)).height) := Lib.hid (Nat.le_refl _)
  have HJ : Hid ((Lit.int .i64 (d.height : Int)).wf = true) := Lib.hid (WalkArith.wf_i64 (by omega))
  obtain ⟨cur, hcur⟩ : ∃ cur, cur = d.mem.map U8 := ⟨_, rfl⟩
  have HC := Lib.hid hcur
  have HCl : Hid (cur.length = d.sz) := Lib.hid (by rw [hcur, List.length_map]; exact h.len)
  clear h hG hl1 hl2 hcur
  go_enter Try.func60, Try.ntmps60
  go_wp2_with (first
    | (go_at_call 56; refine hC.out.mono ?_; rintro e w' ⟨rfl, rfl⟩)
    | (go_at_call 74; refine hA.out.mono ?_; rintro e w' ⟨rfl, rfl⟩)
    | (go_at_call 75
       refine hU.out.mono ?_
       rintro e w1 ⟨rfl, h1, hf1⟩
       have H1 := Lib.hid h1
       have HF1 := Lib.hid hf1
       obtain ⟨n1, hn1, hi1⟩ := h1.rooms
       have HI1 := Lib.hid hi1
       have HN1 := Lib.hid hn1
       have hn1b : n1 < 2000000 := by simp only [Ad.cut] at hn1; omega
       have t1 : w1.cell? ⟨a, 1, none⟩ = some (.map (some rm)) := H1.out.blk.cell 1
       clear h1 hf1 hi1 hn1)
    | (at_mapUpdate
       refine wpList_update_im _ rfl _ _ _ 81 rfl 3 3 Try.underlying3 Try.underlying81 rm n1 (d.cut (cl n)).fr rfl HI1.out (by unfold maxLen; omega) (d.height : Int) (I64 (cl n)) rfl rfl HJ.out ?_
       intro w2 him hturn
       have hf2 := turned_fr hturn
       have HB2 : Hid (Blk w2 a 84 (arC bb rm gm (d.cut (cl n)))) := Lib.hid (H1.out.blk.fr hf2 (Ne.symm H1.out.ra))
       have HI2 : Hid (IM w2 Try.prog 3 rm (if ((d.cut (cl n)).fr (d.height : Int)).isSome then n1 else n1 + 1) ((d.cut (cl n)).take d.height (cl n)).fr) := Lib.hid (him.congr (fun x _ => take_fr (d.cut (cl n)) d.height (cl n) x))
       have HF2 := Lib.hid hf2
       have t3 : w2.cell? ⟨a, 3, none⟩ = some (.int .i64 d.live) := HB2.out.cell 3
       have z3 := HB2.out.frozen 3
       have HB3 : Hid (Blk (w2.setCell ⟨a, 3, none⟩ (.int .i64 (d.live + ((cl n) : Nat)))) a 84 (arC bb rm gm ((d.cut (cl n)).take d.height (cl n)))) := Lib.hid (HB2.out.set_ 3 _)
       have HM3 : Hid (Blk (w2.setCell ⟨a, 3, none⟩ (.int .i64 (d.live + ((cl n) : Nat)))) bb 5 cur.toArray) := Lib.hid (by
         rw [HC.out]
         exact (H1.out.byt.fr hf2 (Ne.symm H1.out.rb)).far (p := ⟨a, 3, none⟩) H1.out.ab _)
       have t0 : (w2.setCell ⟨a, 3, none⟩ (.int .i64 (d.live + ((cl n) : Nat)))).cell? ⟨a, 0, none⟩ = some (.slice (some ⟨bb, 0, none⟩) d.sz d.sz) := HB3.out.cell 0
       obtain ⟨w4, hcl, hg4, hf4⟩ := clear_run _ bb d.height (cl n) (d.sz - d.height) cur 5 HM3.out (by omega) (by rw [HCl.out]; omega)
       have HF4 := Lib.hid hf4
       clear him hturn hf2 hf4))
  go_ret2
  have hm4 : Blk w4 bb 5 ((zeroM (d.cut (cl n)).mem d.height (cl n)).map U8).toArray := by
    have := hg4.out
    rw [HC.out, ← zeroM_map] at this
    exact this
  have hF : Fr (fun k => k = a ∨ k = bb ∨ k = rm) w1 w4 := by
    refine Fr.trans (Fr.set_ (HF2.out.more (fun k hk => .inr (.inr hk))) (p := ⟨a, 3, none⟩) (.inl rfl) _) (HF4.out.more (fun k hk => .inr (.inl hk)))
  have hA : Are w4 a bb rm gm ((d.cut (cl n)).take d.height (cl n)) := by
    refine H1.out.take HH.out (cl_lo n) (cl_hi n) (HB3.out.fr HF4.out (Ne.symm H1.out.ab)) hm4 (n := if ((d.cut (cl n)).fr (d.height : Int)).isSome then n1 else n1 + 1) ?_ ((HI2.out.far (p := ⟨a, 3, none⟩) H1.out.ra _).fr HF4.out H1.out.rb) hF
    have := HN1.out
    split <;> omega
  refine ⟨rfl, hA, (HF1.out.more (fun k hk => .inl hk)).trans (hF.more (fun k hk => ?_))⟩
  rcases hk with q | q | q
  · exact .inl q
  · exact .inr (.inl q)
  · exact .inr (.inr (.inl q))
end Go.Proofs.Ytlnffcledpccjaa
/-
  arena.Arena.Give.
-/
namespace Go.Proofs.Ytlnffcledpccjaa
open Go.RowKit
set_option linter.unusedVariables false
/-- the room of class c that begins at p is given back -/
def Ad.give (d : Ad) (p c : Nat) (v : Value) : Ad :=
  { d with live := d.live - c, ops := d.ops + 1, R := fun i => if i = p then none else d.R i, G := fun i => if i = c then d.G c ++ [p] else d.G i, V := fun i => if i = c then v else d.V i }
theorem give_fr (d : Ad) (p c : Nat) (v : Value) (x : Int) : (d.give p c v).fr x = if x = (p : Int) then none else d.fr x := by
  unfold Ad.fr Ad.give
  by_cases h : 0 ≤ x
  · obtain ⟨k, rfl⟩ := Int.eq_ofNat_of_zero_le h
    rw [if_pos h, if_pos h, Int.toNat_natCast]
    by_cases e : k = p
    · subst e; simp
    · have : ¬ ((k : Int) = (p : Int)) := by omega
      simp only [if_neg e, if_neg this]
  · rw [if_neg h, if_neg h, if_neg (by omega)]
theorem give_fg (d : Ad) (p c : Nat) (v : Value) (x : Int) : (d.give p c v).fg x = if x = (c : Int) then some v else d.fg x := by
  unfold Ad.fg Ad.give
  by_cases h : 0 ≤ x
  · obtain ⟨k, rfl⟩ := Int.eq_ofNat_of_zero_le h
    rw [if_pos h, if_pos h, Int.toNat_natCast]
    by_cases e : k = c
    · subst e; simp
    · have : ¬ ((k : Int) = (c : Int)) := by omega
      simp only [if_neg e, if_neg this]
  · rw [if_neg h, if_neg h, if_neg (by omega)]
/-- what holds the places of a class: a slice, or nil -/
def Ad.v0 (d : Ad) (c : Nat) : Value := (d.fg (c : Int)).getD (.slice none 0 0)
theorem Are.own0 {w : World} {a bb rm gm : Nat} {d : Ad} (h : Are w a bb rm gm d) (c : Nat) : w.ownsRow 0 3 1 (d.v0 c) (d.G c).length ((d.G c).map I64) ∧ (d.G c ≠ [] → d.v0 c = d.V c) ∧ (d.G c = [] → (d.v0 c).ownBlock = none) := by
  unfold Ad.v0
  rw [Ad.fg_nat]
  by_cases e : d.G c = []
  · rw [if_pos e, e]
    exact ⟨World.ownsRow_nil w 0 3 1, fun q => absurd rfl q, fun _ => rfl⟩
  · rw [if_neg e]
    exact ⟨h.own c e, fun _ => rfl, fun q => absurd q e⟩
def gvS (a rm gm : Nat) (d : Ad) (c k : Nat) : Prop := k = a ∨ k = rm ∨ k = gm ∨ (d.v0 c).ownBlock = some k
theorem Are.give {w w' : World} {a bb rm gm : Nat} {d : Ad} {p c : Nat} {v : Value} (h : Are w a bb rm gm d) (hp : d.R p = some c) (hb : Blk w' a 84 (arC bb rm gm (d.give p c v)))
    {n : Nat} (hn : n ≤ d.ops + 1) (hi : IM w' Try.prog 3 rm n (d.give p c v).fr) {n' : Nat} (hn' : n' ≤ d.ops + 1) (hi' : IM w' Try.prog 3 gm n' (d.give p c v).fg)
    (ho : w'.ownsRow 0 3 1 v ((d.G c).length + 1) ((d.G c ++ [p]).map I64)) (hv : v.ownBlock = (d.v0 c).ownBlock ∨ ∃ k, v.ownBlock = some k ∧ w.heap.size ≤ k) (hvs : ∃ k, v.ownBlock = some k)
    (hf : Fr (gvS a rm gm d c) w w') : Are w' a bb rm gm (d.give p c v) := by
  have h0 := h.own0 c
  have hl1 := h.liv1
  have hl2 := h.liv2
  have hr := h.rin p c hp
  have hbb : ¬ gvS a rm gm d c bb := by
    rintro (q | q | q | q)
    · exact h.ab q
    · exact h.rb q.symm
    · exact h.gb q.symm
    · by_cases e : d.G c = []
      · rw [h0.2.2 e] at q; cases q
      · rw [h0.2.1 e] at q; exact (h.own_ne e).2.1 q
  have hoth : ∀ i, i ≠ c → d.G i ≠ [] → ∀ k, (d.V i).ownBlock = some k → ¬ gvS a rm gm d c k := by
    intro i hic hi2 k hk
    rintro (q | q | q | q)
    · exact (h.own_ne hi2).1 (by rw [hk, q])
    · exact (h.own_ne hi2).2.2.1 (by rw [hk, q])
    · exact (h.own_ne hi2).2.2.2 (by rw [hk, q])
    · by_cases e : d.G c = []
      · rw [h0.2.2 e] at q; cases q
      · rw [h0.2.1 e] at q
        exact hic (h.apart i c hi2 e (by rw [hk, q]))
  have hdiff : ∀ i, i ≠ c → d.G i ≠ [] → (d.V i).ownBlock ≠ v.ownBlock := by
    intro i hic hi2 q
    obtain ⟨k, hk⟩ := hvs
    rcases hv with e | ⟨k', e, hk'⟩
    · exact hoth i hic hi2 k (by rw [q, hk]) (.inr (.inr (.inr (by rw [← e, hk]))))
    · have : k' = k := by rw [e] at hk; injection hk
      subst this
      have := h.mlt (k := k') (.inr (.inr (.inr (.inr ⟨i, hi2, by rw [q, e]⟩))))
      omega
  refine ⟨hb, h.byt.fr hf hbb, h.len, h.all, h.lim, ⟨n, hn, hi⟩, ⟨n', hn', hi'⟩, ?_, ?_, ?_, ?_, ?_, h.hsz, ?_, ?_, h.rg⟩
  · intro i hi2
    by_cases e : i = c
    · subst e
      simp only [Ad.give, if_pos, List.length_append, List.length_cons, List.length_nil]
      exact ho
    · simp only [Ad.give, if_neg e] at hi2 ⊢
      exact ownsRow_same (h.own i hi2) (fun k hk => hf.block k (h.mlt (.inr (.inr (.inr (.inr ⟨i, hi2, hk⟩))))) (hoth i e hi2 k hk))
  · intro i j hi2 hj2 hij
    by_cases e : i = c <;> by_cases e' : j = c
    · omega
    · simp only [Ad.give, if_pos e, if_neg e'] at hj2 hij
      exact absurd hij.symm (hdiff j e' hj2)
    · simp only [Ad.give, if_pos e', if_neg e] at hi2 hij
      exact absurd hij (hdiff i e hi2)
    · simp only [Ad.give, if_neg e', if_neg e] at hi2 hj2 hij
      exact h.apart i j hi2 hj2 hij
  · intro i
    have := h.few i
    by_cases e : i = c
    · subst e; simp [Ad.give]; omega
    · simp only [Ad.give, if_neg e]; omega
  · intro q c' hq
    by_cases e : q = p
    · simp [Ad.give, e] at hq
    · simp only [Ad.give, if_neg e] at hq
      exact h.rin q c' hq
  · intro i q hq
    by_cases e : i = c
    · subst e
      simp only [Ad.give, if_pos, List.mem_append, List.mem_singleton] at hq
      rcases hq with hq | rfl
      · exact h.gin i q hq
      · exact hr.1
    · simp only [Ad.give, if_neg e] at hq
      exact h.gin i q hq
  · show -(((d.ops + 1 : Nat) : Int) * 4194304) ≤ d.live - c
    push_cast
    omega
  · show d.live - c ≤ ((d.ops + 1 : Nat) : Int) * 4194304
    push_cast
    omega
theorem Fr.grownV {w w' : World} {o : Option Nat} (h : w.grownBy w' o) : Fr (fun k => o = some k) w w' := ⟨h.os, h.tape, h.output, h.size, fun i hi hs => h.block i hi (fun e => hs e.symm)⟩
/-- append in a region that draws its order, by an equation on its run -/
theorem step_append_run {P : Program} {ops : Array Oper} {o : Oper} {a : Act} {w : World} {K : Act → World → Prop} {Q : Exit → Act → World → Prop} {E : Prop} (hgd : o.guard = none) (s x : Operand) (T : TypeId)
    (ho : o.op = .call { callee := .builtin .append, args := #[s, x], argTypes := #[T, T] }) (v xv v' : Value) (w' : World) (hs : a.eval s = v) (hx : a.eval x = xv)
    (hrun : Hid (∀ ty, (Builtin.append_ #[T, T] ty #[v, xv]).run P w = .ok v' w')) (h : K (a.put o.dst v') w') :
    if Region.wanted o (yielded ops a.tmps) = true then Oper.wp P o a w K Q else E := by
  have hw : Region.wanted o (yielded ops a.tmps) = true := by simp [Region.wanted, hgd]
  rw [if_pos hw]
  unfold Oper.wp
  simp [execOp, ho, resolve, invoke, builtin, hs, hx, hrun.out o.type, Result.andThen]
  exact h
theorem info3 : (Try.prog.info? 3).map (fun i => (i.zero, i.size, i.bytes)) = some (some (.int .i64 0), 1, 8) := by kernel_rfl
set_option maxHeartbeats 1000000 in
set_option maxRecDepth 100000 in
theorem Give_no (a bb rm gm : Nat) (d : Ad) (p : Int) (w : World) (h : Are w a bb rm gm d) (hj : (Lit.int .i64 p).wf = true) (hn : (d.fr p).isSome = false) :
    Calls Try.prog 76 #[.pointer (some ⟨a, 0, none⟩), .int .i64 p] w fun e w' => e = .returned (.int .i64 2) ∧ w = w' := by
  have c1 : w.cell? ⟨a, 1, none⟩ = some (.map (some rm)) := h.blk.cell 1
  obtain ⟨n, _, hi⟩ := h.rooms
  have HI := Lib.hid hi
  have HJ := Lib.hid hj
  have hE : d.fr p = none := by simpa using hn
  have HE := Lib.hid hE
  clear h hi hj hn hE
  go_enter Try.func76, Try.ntmps76
  go_wp2_with (at_lookup; refine wpList_lookup_im _ rfl _ _ 81 true rfl 3 3 Try.underlying3 Try.underlying81 (zero3 _) rm n d.fr rfl HI.out p rfl HJ.out ?_; rw [if_pos rfl, HE.out, Option.getD_none, Option.isSome_none])
  go_ret
  exact ⟨rfl, rfl⟩
def GvPost (a bb rm gm : Nat) (d : Ad) (p c : Nat) (w : World) (e : Ending) (w' : World) : Prop :=
  ∃ v, e = .returned (.int .i64 0) ∧ Are w' a bb rm gm (d.give p c v) ∧ Fr (gvS a rm gm d c) w w' ∧ (v.ownBlock = (d.v0 c).ownBlock ∨ ∃ k, v.ownBlock = some k ∧ w.heap.size ≤ k)
set_option maxHeartbeats 2000000 in
set_option maxRecDepth 100000 in
theorem Give_ok (a bb rm gm : Nat) (d : Ad) (p c : Nat) (w : World) (h : Are w a bb rm gm d) (hp : d.R p = some c) (ho : d.ops < 1000000) :
    Calls Try.prog 76 #[.pointer (some ⟨a, 0, none⟩), .int .i64 p] w (GvPost a bb rm gm d p c w) := by
  obtain ⟨i0, hii, hz0, hz1, hz2⟩ := info_parts info3
  have c1 : w.cell? ⟨a, 1, none⟩ = some (.map (some rm)) := h.blk.cell 1
  obtain ⟨n, hn, hi⟩ := h.rooms
  obtain ⟨n', hn', hi'⟩ := h.given
  have hr := h.rin p c hp
  have hsz := h.hsz
  have hlim := h.lim
  have hl1 := h.liv1
  have hl2 := h.liv2
  have hL1 : -4194304000000 ≤ d.live := by omega
  have hL2 : d.live ≤ 4194304000000 := by omega
  have hr1 := hr.1
  have hr2 := hr.2.1
  have hr3 := hr.2.2
  have HI := Lib.hid hi
  have HI' := Lib.hid hi'
  have HJ : Hid ((Lit.int .i64 (p : Int)).wf = true) := Lib.hid (WalkArith.wf_i64 (by omega))
  have HJc : Hid ((Lit.int .i64 (c : Int)).wf = true) := Lib.hid (WalkArith.wf_i64 (by omega))
  have HE : Hid (d.fr (p : Int) = some (I64 c)) := Lib.hid (by rw [Ad.fr_nat, hp]; rfl)
  have H := Lib.hid h
  have HP := Lib.hid hp
  clear h hi hi' hp hr hl1 hl2
  go_enter Try.func76, Try.ntmps76
  go_wp2_with (first
    | (at_lookup; refine wpList_lookup_im _ rfl _ _ 81 true rfl 3 3 Try.underlying3 Try.underlying81 (zero3 _) rm n d.fr rfl HI.out (p : Int) rfl HJ.out ?_; rw [if_pos rfl, HE.out, Option.getD_some, Option.isSome_some]; unfold I64)
    | (at_delete
       refine wpList_delete_im _ rfl _ _ 81 3 rfl 3 Try.underlying3 Try.underlying81 rm n d.fr rfl HI.out (p : Int) rfl HJ.out ?_
       intro w2 him hturn
       have HF2 := Lib.hid (turned_fr hturn)
       have HI2 := Lib.hid him
       clear him hturn))
  have g2 : w2.cell? ⟨a, 2, none⟩ = some (.map (some gm)) := (H.out.blk.fr HF2.out (Ne.symm H.out.ra)).cell 2
  obtain ⟨o, hoo⟩ : ∃ o, o = Obj.cells #[Value.int .i64 (p : Int)] 3 := ⟨_, rfl⟩
  obtain ⟨W, hW⟩ : ∃ W, W = (w2.alloc (Obj.cells #[Value.int .i64 (p : Int)] 3)).drew := ⟨_, rfl⟩
  have fW : Fr (fun _ => False) w2 W := by rw [hW]; exact ((Fr.refl _ w2).alloc _).drew
  have fWw : Fr (· = rm) w W := HF2.out.trans (fW.more (fun _ q => q.elim))
  have i2 : IM w2 Try.prog 3 gm n' d.fg := HI'.out.fr HF2.out (fun e => H.out.rg e.symm)
  have iW : IM W Try.prog 3 gm n' d.fg := i2.fr fW (fun q => q)
  have gW : W.cell? ⟨a, 2, none⟩ = some (.map (some gm)) := ((H.out.blk.fr fWw (Ne.symm H.out.ra))).cell 2
  obtain ⟨hown0, hv0a, hv0b⟩ := H.out.own0 c
  have hv0ne : ∀ k, (d.v0 c).ownBlock = some k → k ≠ a ∧ k ≠ bb ∧ k ≠ rm ∧ k ≠ gm ∧ k < w.heap.size := by
    intro k hk
    by_cases e : d.G c = []
    · rw [hv0b e] at hk; cases hk
    · rw [hv0a e] at hk
      have := H.out.own_ne e
      refine ⟨fun q => this.1 (by rw [hk, q]), fun q => this.2.1 (by rw [hk, q]), fun q => this.2.2.1 (by rw [hk, q]), fun q => this.2.2.2 (by rw [hk, q]), H.out.mlt (.inr (.inr (.inr (.inr ⟨c, e, hk⟩))))⟩
  have ownW : W.ownsRow 0 3 1 (d.v0 c) (d.G c).length ((d.G c).map I64) := ownsRow_same hown0 (fun k hk => fWw.block k (hv0ne k hk).2.2.2.2 (hv0ne k hk).2.2.1)
  have hl0 : (Instr.lookup 82 (.map (some gm)) (.int .i64 (c : Int)) false).run Try.prog w2.drew = .ok (d.v0 c) w2.drew := (i2.drewN 1).look Try.underlying3 Try.underlying82 (zero61 _) (c : Int) HJc.out false
  have hl1 : (Instr.lookup 82 (.map (some gm)) (.int .i64 (c : Int)) false).run Try.prog W = .ok (d.v0 c) W := iW.look Try.underlying3 Try.underlying82 (zero61 _) (c : Int) HJc.out false
  have hbW : Blk W w2.heap.size 3 #[Value.int .i64 (p : Int)] := by rw [hW]; exact Blk.new w2 3 _
  have hfew := H.out.few c
  obtain ⟨v1, w3, hap, hown3, hgr3, _, hloc⟩ := run_append_own_at (P := Try.prog) W 0 96 96 3 i0 (.int .i64 0) 1 8 Try.underlying96 hii hz0 hz1 hz2 rfl (by decide) (d.v0 c) (d.G c).length ((d.G c).map I64) ownW ⟨w2.heap.size, 0, none⟩ 1 1 [Value.int .i64 (p : Int)] rfl (Blk.src hbW) (by simp [Value.oneCell']) (by unfold maxLen; omega) (by omega) (Nat.zero_le _)
  have f3 := Fr.grownV hgr3
  have fw3 : Fr (gvS a rm gm d c) w w3 := (fWw.more (fun k q => .inr (.inl q))).trans (f3.more (fun k q => .inr (.inr (.inr q))))
  have i3 : IM w3 Try.prog 3 gm n' d.fg := iW.fr f3 (fun q => (hv0ne gm q).2.2.2.1 rfl)
  have g3 : w3.cell? ⟨a, 2, none⟩ = some (.map (some gm)) := (((H.out.blk.fr fWw (Ne.symm H.out.ra))).fr f3 (fun q => (hv0ne a q).1 rfl)).cell 2
  obtain ⟨w4, hup, him4, hturn4⟩ := i3.store Try.underlying3 Try.underlying82 (by unfold maxLen; omega) (c : Int) HJc.out v1
  have f4 := turned_fr hturn4
  have hb4 : Blk w4 a 84 (arC bb rm gm d) := (((H.out.blk.fr fWw (Ne.symm H.out.ra))).fr f3 (fun q => (hv0ne a q).1 rfl)).fr f4 (Ne.symm H.out.ga)
  have t3 : w4.cell? ⟨a, 3, none⟩ = some (.int .i64 d.live) := hb4.cell 3
  have z3 : w4.frozen? ⟨a, 3, none⟩ = false := hb4.frozen 3
  have hvl : Hid (v1.ownBlock = (d.v0 c).ownBlock ∨ ∃ k, v1.ownBlock = some k ∧ w.heap.size ≤ k) := Lib.hid (by
    rcases hloc with e | e
    · exact .inl e
    · exact .inr ⟨_, e, fWw.size⟩)
  have fin : Hid (Are (w4.setCell ⟨a, 3, none⟩ (.int .i64 (d.live - (c : Int)))) a bb rm gm (d.give p c v1) ∧ Fr (gvS a rm gm d c) w (w4.setCell ⟨a, 3, none⟩ (.int .i64 (d.live - (c : Int))))) := Lib.hid (by
    have hF : Fr (gvS a rm gm d c) w (w4.setCell ⟨a, 3, none⟩ (.int .i64 (d.live - (c : Int)))) := (fw3.trans (f4.more (fun k q => .inr (.inr (.inl q))))).set_ (p := ⟨a, 3, none⟩) (.inl rfl) _
    obtain ⟨gq, capq, curq, eq1, hbq, _⟩ := own_row hown3 (by omega)
    have hv1ne : gq ≠ a ∧ gq ≠ gm ∧ gq < w3.heap.size := ⟨hbq.ne_ (((H.out.blk.fr fWw (Ne.symm H.out.ra))).fr f3 (fun q => (hv0ne a q).1 rfl)) (by decide), (i3.ne_ hbq).symm, hbq.lt⟩
    refine ⟨H.out.give HP.out (hb4.set_ 3 _) (n := if (d.fr (p : Int)).isSome then n - 1 else n) ?_ ?_ (n' := if (d.fg (c : Int)).isSome then n' else n' + 1) ?_ ?_ ?_ hvl.out ⟨gq, by rw [eq1]; rfl⟩ hF, hF⟩
    · split <;> omega
    · have := ((((HI2.out.congr (fun x _ => give_fr d p c v1 x)).fr fW (fun q => q)).fr f3 (fun q => (hv0ne rm q).2.2.1 rfl)).fr f4 H.out.rg).far (p := ⟨a, 3, none⟩) H.out.ra (.int .i64 (d.live - (c : Int)))
      exact this
    · split <;> omega
    · exact (him4.congr (fun x _ => give_fg d p c v1 x)).far (p := ⟨a, 3, none⟩) H.out.ga _
    · have e1 : (d.G c ++ [p]).map I64 = (d.G c).map I64 ++ [Value.int .i64 (p : Int)] := by simp [I64]
      rw [e1]
      refine ownsRow_same hown3 (fun k hk => ?_)
      rw [eq1] at hk
      simp only [Value.ownBlock, Option.some.injEq] at hk
      subst hk
      rw [Below.heap_setCell _ _ _ _ hv1ne.1]
      exact f4.block _ hv1ne.2.2 hv1ne.2.1)
  have HAP : Hid (∀ ty, (Builtin.append_ #[96, 96] ty #[d.v0 c, .slice (some ⟨w2.heap.size, 0, none⟩) 1 1]).run Try.prog (w2.alloc (Obj.cells #[Value.int .i64 (p : Int)] 3)).drew = .ok v1 w3) := Lib.hid (fun ty => by rw [← hW]; exact hap)
  rw [hW] at hl1 gW
  clear hap
  clear hW hoo fW fWw i2 iW hown0 hv0a hv0b hv0ne ownW hbW hown3 hgr3 hloc f3 fw3 i3 him4 hturn4 f4 hb4 HI2 HF2
  obtain ⟨v0, hv0⟩ : ∃ v0, v0 = d.v0 c := ⟨_, rfl⟩
  rw [← hv0] at hl0 hl1 HAP
  have HV0 := Lib.hid hv0
  clear hv0
  go_frame
  go_region_law (refine step_append_run rfl (.tmp 35) (.tmp 37) 96 rfl v0 (.slice (some ⟨w2.heap.size, 0, none⟩) 1 1) v1 w3 rfl rfl HAP ?_)
  all_goals
    go_wp2
    go_ret
    exact ⟨v1, rfl, fin.out.1, fin.out.2, hvl.out⟩
end Go.Proofs.Ytlnffcledpccjaa
