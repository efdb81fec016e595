/- PGf -/
import Derived.Test.YtnccenbkpocjgaaGreatExactUnhearG06
import Derived.Test.YtnccenbkpocjgaaGreatExactUnhearG07
import Derived.Test.YtnccenbkpocjgaaGreatExactUnhearLRLift
import Derived.Test.YtnccenbkpocjgaaGreatExactHearG04
import Derived.RangeFuncBound
import Derived.RangeFuncNested
import Derived.Sort.BigQuietIn
import Derived.RangeFuncCalls
/- The program's goBack. -/
namespace Go.Proofs.YtnccenbkpocjgaaGreat
open Go.RowKit Go.Shelf
theorem tzPGf {P : Program} {md : Region.Mode} {ops : Array Oper} {Q : Exit → Act → World → Prop} {S : World → Prop} {z fuel : Nat} {listed : Array Bool} {a : Act} {w : World} (i : Nat) (oi : Oper) (v : Value)
 (h : wpAnyZ P md ops Q S z fuel (listed.setIfInBounds i true) (a.put oi.dst v) w) (hi : ops[i]? = some oi := by rfl)
 (hs : Region.noSelect ops = true := by kernel_rfl) (hf : Region.free md ops listed i = true := by kernel_rfl) (hr : (Region.ready md ops listed).contains i = true := by kernel_rfl)
 (hc : chainB md ops i z [i] = true := by kernel_rfl) (hu : [i].all (fun p => !listed.getD p true) = true := by kernel_rfl)
 (hQ : ∀ c a w, Q (.panic c) (a.put oi.dst v) w → Q (.panic c) a w := by exact fun _ _ _ h => h)
 (hy : YieldsIf P ops S oi v a := by exact Or.inl ⟨by rfl, by (intro wX hSw; (try dsimp only at hSw); go_simp; (try exact IntWalk.i64_in _ (by omega)))⟩) (hS : S w := by assumption) : wpAnyZ P md ops Q S z (fuel + 1) listed a w :=
 wpAnyZ_take i [] hi hs hf hr hc hu hQ hy hS h
theorem hidPGf {p : Prop} (h : p) : Hid p := h
attribute [local go_sem] Oper.semAt_some
theorem Turns.then {S S' : Nat → Prop} {w W W' : World} (h : Turns S w W) (h' : Turns S' W W') (hS : ∀ q, q < w.heap.size → S' q → S q) : Turns S w W' :=
 ⟨h'.os.trans h.os, h'.tape.trans h.tape, h'.output.trans h.output, Nat.le_trans h.size h'.size, fun q hq hn => (h'.block q (Nat.lt_of_lt_of_le hq h.size) (fun e => hn (hS q hq e))).trans (h.block q hq hn)⟩
theorem keepsOthers_of_turns {S : Nat → Prop} {W W' : World} (h : Turns S W W') (hS : ∀ k o, S k → W.heap[k]? = some o → o.isCells = true) : KeepsOthers W W' :=
 ⟨h.size, fun k o hk ho => (h.block k (Array.getElem?_eq_some_iff.1 hk).1 (fun hs => by have := hS k o hs hk; rw [ho] at this; cases this)).trans hk⟩
theorem wpIn_only' {F : Fence} {n : Nat} {P : Program} {c : Code} {Q : Exit → Act → World → Prop} {a : Act} {w : World} (h : c.wpIn F n P (only (fun a w => Q .normal a w)) a w) : c.wpIn F n P Q a w :=
 Code.wpIn_mono (fun ex a w q => by obtain ⟨rfl, q⟩ := q; exact q) h
theorem row_cells {B : Nat} {T : TypeId} {c n : Nat} {w : World} {v : Value} {xs : List Value} (h : w.ownsRow B T c v n xs) {k : Nat} {o : Obj} (hk : v.ownBlock = some k) (ho : w.heap[k]? = some o) : o.isCells = true := by
 obtain ⟨_, ⟨rfl, _⟩ | ⟨g, cap, cur, rfl, _, hc, _⟩⟩ := h
 ·simp [Value.ownBlock] at hk
 ·obtain rfl : g = k := by simpa [Value.ownBlock] using hk
  rw [hc] at ho
  cases ho
  rfl
theorem bk_cells {w : World} {D : Nat} {T : TypeId} {vs : Array Value} {o : Obj} (h : Bk w D T vs) (ho : w.heap[D]? = some o) : o.isCells = true := by
 have h9 : w.heap[D]? = _ := h
 rw [h9] at ho
 cases ho
 rfl
theorem DoR.kept {S : Nat → Prop} {B D : Nat} {X Y : World} {vr vp vt va vu : Value} {A1 A4 : Nat → Prop} {p : Pa} {u : List Ev} (h : DoR B D X vr vp vt va vu A1 A4 p u) (ht : Turns S X Y) (hS : ∀ k, S k → ¬ A1 k ∧ ¬ A4 k ∧ ∃ o : Obj, X.heap[k]? = some o ∧ o.isCells = false) : DoR B D Y vr vp vt va vu A1 A4 p u := by
 have hr : ∀ {k : Nat} {T : TypeId} {c n : Nat} {v : Value} {cs : List Value}, S k → X.ownsRow B T c v n cs → v.ownBlock ≠ some k := fun hk ho e1 => by
  obtain ⟨_, _, o, h1, h2⟩ := hS _ hk
  rw [row_cells ho e1 h1] at h2
  cases h2
 exact ⟨h.cp.turns ht (fun k hk => ⟨(hS k hk).1, (hS k hk).2.1, hr hk h.cp.todo, hr hk h.cp.antis⟩), owns_turns h.und ht (fun k hk e1 => hr e1 h.und hk), h.blk.turns ht (fun e1 => by
  obtain ⟨_, _, o, h1, h2⟩ := hS _ e1
  rw [bk_cells h.blk h1] at h2
  cases h2), h.du, h.dD, h.lo⟩
def GfJ (B D : Nat) (va : Value) (p : Pa) (k : Nat) (u7 vp vt vu : Value) (K7 A4 : Nat → Prop) (w8 : World) (pre : List (Fin (psAt p.p k).s.length)) (W3 : World) : Prop :=
 ∃ vu', DoR B D W3 u7 vp vt va vu' K7 A4 (p.back k).rev (undoL p.p (k + 1) ++ bkOf (psAt p.p k).s pre) ∧ NewRow w8 vu vu' ∧ Turns (fun q => q = D ∨ vu.ownBlock = some q) w8 W3
theorem gf_own (B D : Nat) (va : Value) (p : Pa) (k : Nat) (u7 vp vt vu : Value) (K7 A4 : Nat → Prop) (w8 : World) (hK : ∀ q, K7 q → q < w8.heap.size) (hA : ∀ q, A4 q → q < w8.heap.size) : OwnFrom w8.heap.size (GfJ B D va p k u7 vp vt vu K7 A4 w8) := by
 rintro pre X Y row ⟨vu', h1, h2, h3⟩ hg hr
 have ht : Turns (fun q => row = some q) X Y := ⟨hg.os, hg.tape, hg.output, hg.size, fun q hq hn => hg.block q hq (fun e => hn e.symm)⟩
 refine ⟨vu', h1.kept ht (fun q hq => ⟨fun e => by have := hK q e; have := (hr q hq).1; omega, fun e => by have := hA q e; have := (hr q hq).1; omega, (hr q hq).2⟩), h2, ⟨hg.os.trans h3.os, hg.tape.trans h3.tape, hg.output.trans h3.output, Nat.le_trans h3.size hg.size, fun q hq hn => (hg.block q (by have := h3.size; omega) (fun e => by have := (hr q e.symm).1; omega)).trans (h3.block q hq hn)⟩⟩
structure GfS (S : Nat → Prop) (B D : Nat) (va : Value) (p : Pa) (e : Ev) (w W : World) (j : Nat) (Ds : List Nat) (vr vp vt vu : Value) (A1 A4 : Nat → Prop) : Prop where
 le : j ≤ p.p.length
 doer : DoR B D W vr vp vt va vu A1 A4 (p.back j).rev (undoL p.p j)
 hi : HiAt p.p e j
 box : Bk W w.heap.size 98 #[.pointer (some ⟨D, 0, none⟩)]
 ev : Bk W (w.heap.size + 1) 55 #[.int .i64 e.t, .int .i64 e.s, .int .i64 e.q, .int .i64 e.d, .int .i64 e.k, .int .i64 e.v, .int .i64 e.g]
 nd : Ds.Nodup
 mks : ∀ E ∈ Ds, W.heap[E]? = some (.deferred (some [])) ∧ w.heap.size + 2 ≤ E ∧ ¬ A1 E ∧ ¬ A4 E
 bel : Below B w W
 lim : ∀ q, A1 q ∨ A4 q → q < w.heap.size
 dl : D < w.heap.size
 rb : vt.ownBlock ≠ some (w.heap.size + 1) ∧ vu.ownBlock ≠ some (w.heap.size + 1)
 fr : Turns S w W
 s4 : ∀ q, A4 q → S q
 st : ∀ q, q < w.heap.size → vt.ownBlock = some q → S q
 su : ∀ q, q < w.heap.size → vu.ownBlock = some q → S q
 sD : S D
theorem GfS.len {S : Nat → Prop} {B D : Nat} {va : Value} {p : Pa} {e : Ev} {w W : World} {j : Nat} {Ds : List Nat} {vr vp vt vu : Value} {A1 A4 : Nat → Prop} (h : GfS S B D va p e w W j Ds vr vp vt vu A1 A4) : lenAt W D 4 = j := by
 obtain ⟨a4, c4, e4, _⟩ := OwnD.parts (c := 12) (n := (p.back j).rev.p.length) h.doer.cp.past
 have hc := h.doer.blk.cell (i := 4) rfl
 rw [e4] at hc
 have := lenAt_of hc
 rw [this]
 show (p.p.take j).length = j
 rw [List.length_take]
 have := h.le
 omega
theorem GfS.ends {S : Nat → Prop} {B D : Nat} {va : Value} {p : Pa} {e : Ev} {w W W' : World} {j : Nat} {Ds : List Nat} {vr vp vt vu : Value} {A1 A4 : Nat → Prop} (h : GfS S B D va p e w W j Ds vr vp vt vu A1 A4) (hB : B ≤ w.heap.size) (ht : Turns (fun k => k ∈ Ds) W W') : DoR B D W' vr vp vt va vu A1 A4 (p.back j).rev (undoL p.p j) ∧ Below B w W' ∧ Turns S w W' := by
 have hcell : ∀ {k : Nat} {x : Array Value} {T : TypeId}, k ∈ Ds → W.heap[k]? = some (.cells x T) → False := fun hk he => by
  have := (h.mks _ hk).1
  rw [this] at he
  cases he
 have hrow : ∀ {k : Nat} {T : TypeId} {c n : Nat} {v : Value} {cs : List Value}, k ∈ Ds → W.ownsRow B T c v n cs → v.ownBlock ≠ some k := fun hk ho e1 => by
  obtain ⟨_, ⟨rfl, _⟩ | ⟨g, cap, cur, rfl, _, hc, _⟩⟩ := ho
  ·simp [Value.ownBlock] at e1
  ·obtain rfl : g = _ := by simpa [Value.ownBlock] using e1
   exact hcell hk hc
 have hd := h.doer
 refine ⟨⟨hd.cp.turns ht (fun k hk => ⟨(h.mks k hk).2.2.1, (h.mks k hk).2.2.2, hrow hk hd.cp.todo, hrow hk hd.cp.antis⟩), owns_turns hd.und ht (fun k hk e1 => hrow e1 hd.und hk), hd.blk.turns ht (fun e1 => hcell e1 hd.blk), hd.du, hd.dD, hd.lo⟩, h.bel.trans (ht.to_below (fun k hk => by have := (h.mks k hk).2.1; omega) (Nat.le_trans hB h.bel.size)), h.fr.then ht (fun k hk hs => by have := (h.mks k hs).2.1; omega)⟩
theorem GfS.below {S : Nat → Prop} {B D : Nat} {va : Value} {p : Pa} {e : Ev} {w W W' : World} {j : Nat} {Ds : List Nat} {vr vp vt vu : Value} {A1 A4 : Nat → Prop} (h : GfS S B D va p e w W j Ds vr vp vt vu A1 A4) (hB : B ≤ w.heap.size) (hb : Below W.heap.size W W') : GfS S B D va p e w W' j Ds vr vp vt vu A1 A4 :=
 ⟨h.le, h.doer.below hb, h.hi, h.box.below hb, h.ev.below hb, h.nd, fun E hE => ⟨(hb.block E (Array.getElem?_eq_some_iff.1 (h.mks E hE).1).1).trans (h.mks E hE).1, (h.mks E hE).2⟩, h.bel.trans (hb.mono (Nat.le_trans hB h.bel.size)), h.lim, h.dl, h.rb, h.fr.then (Turns.of_below (S := fun _ => False) hb) (fun _ _ hs => hs.elim), h.s4, h.st, h.su, h.sD⟩
theorem GfS.leaves {S : Nat → Prop} {B D : Nat} {va : Value} {p : Pa} {e : Ev} {w W : World} {j : Nat} {Ds : List Nat} {vr vp vt vu : Value} {A1 A4 : Nat → Prop} (h : GfS S B D va p e w W j Ds vr vp vt vu A1 A4) (hB : B ≤ w.heap.size) (hj : j = cutK p.p e) (tmps : Array Value) :
  LeavesInM Fence.wide 5 Tryz.prog Tryz.f121 tmps (fun r w' => (∃ u, r = .returned u) ∧ (∃ vr' vp' vt' vu' A1' A4', DoR B D w' vr' vp' vt' va vu' A1' A4' (p.back (cutK p.p e)).rev (undoL p.p (cutK p.p e))) ∧ Below B w w' ∧ Turns S w w') (marks Ds) .returning W := by
 refine leaves_marks Ds W h.nd (fun E hE => (h.mks E hE).1) (fun w' ht => ?_)
 have hh := h.ends hB ht
 rw [hj] at hh
 exact ⟨.tuple #[], by simp [results, Tryz.f121, go_sem], ⟨_, rfl⟩, ⟨_, _, _, _, _, _, hh.1⟩, hh.2⟩
theorem GfS.step {S : Nat → Prop} {B D g k E : Nat} {va : Value} {p : Pa} {e : Ev} {w W w6 w7 w8 W9 : World} {Ds : List Nat} {vr vp vt vu u7 vp' vt' : Value} {A1 A4 K7 A4' : Nat → Prop} (h : GfS S B D va p e w W (k + 1) Ds vr vp vt vu A1 A4) (hB : B ≤ w.heap.size) (hk : k < p.p.length) (hnc : ¬ (psAt p.p k).e.cmp e < 0) (hg : A4 g) (hK7 : ∀ q, K7 q → A4 q) (hA4 : ∀ q, A4' q → A4 q)
  (hT : Turns (fun q => q = D ∨ q = g ∨ vt.ownBlock = some q) W w7) (h6 : W.heap.size ≤ w6.heap.size) (hn7 : NewRow w6 vt vt') (h8 : Below w7.heap.size w7 w8) (hJ : GfJ B D va p k u7 vp' vt' vu K7 A4' w8 (List.finRange _) W9) (hE : w8.heap.size ≤ E) (hE9 : W9.heap[E]? = some (.deferred (some []))) :
  ∃ vu', GfS S B D va p e w W9 k (E :: Ds) u7 vp' vt' vu' K7 A4' := by
 obtain ⟨vu', hd9, hn9, ht9⟩ := hJ
 have hT9 : Turns (fun q => q = D ∨ q = g ∨ vt.ownBlock = some q ∨ vu.ownBlock = some q) W W9 := ((hT.mono (fun q e1 => e1.elim .inl (fun e1 => .inr (e1.elim .inl (fun e1 => .inr (.inl e1)))))).trans (Turns.of_below h8)).trans (ht9.mono (fun q e1 => e1.elim .inl (fun e1 => .inr (.inr (.inr e1)))))
 have s1 := h.bel.size
 have s2 := hT.size
 have s3 := h8.size
 have s4 := ht9.size
 have sb := h.ev.lt
 have hgw := h.lim g (.inr hg)
 have hd := h.doer
 have hdl := h.dl
 refine ⟨vu', by omega, ?_, fun i h1 h2 => ?_, h.box.turns hT9 (fun e1 => ?_), h.ev.turns hT9 (fun e1 => ?_), List.nodup_cons.2 ⟨fun e1 => ?_, h.nd⟩, fun E' hE' => ?_, h.bel.trans (hT9.to_below (fun q e1 => ?_) (Nat.le_trans hB s1)), fun q hq => h.lim q (.inr (hq.elim (hK7 q) (hA4 q))), h.dl, ⟨fun e1 => ?_, fun e1 => ?_⟩, h.fr.then hT9 (fun q hq hs => ?_), fun q hq => h.s4 q (hA4 q hq), fun q hq e1 => ?_, fun q hq e1 => ?_, h.sD⟩
 ·rw [undo_step hk]
  rw [bkOf_all] at hd9
  exact hd9
 ·rcases Nat.lt_or_ge k i with h3 | h3
  ·exact h.hi i h3 h2
  ·obtain rfl : i = k := by omega
   exact hnc
 ·rcases e1 with e1 | e1 | e1 | e1
  ·omega
  ·omega
  ·exact owns_ne hd.cp.todo h.box (by decide) e1
  ·exact owns_ne hd.und h.box (by decide) e1
 ·rcases e1 with e1 | e1 | e1 | e1
  ·omega
  ·omega
  ·exact h.rb.1 e1
  ·exact h.rb.2 e1
 ·have := (Array.getElem?_eq_some_iff.1 (h.mks E e1).1).1
  omega
 ·rcases List.mem_cons.1 hE' with rfl | hE'
  ·exact ⟨hE9, by omega, fun e1 => by have := h.lim _ (.inr (hK7 _ e1)); omega, fun e1 => by have := h.lim _ (.inr (hA4 _ e1)); omega⟩
  ·have hm := h.mks E' hE'
   refine ⟨(hT9.block E' (Array.getElem?_eq_some_iff.1 hm.1).1 (fun e1 => ?_)).trans hm.1, hm.2.1, fun e1 => hm.2.2.2 (hK7 _ e1), fun e1 => hm.2.2.2 (hA4 _ e1)⟩
   rcases e1 with e1 | e1 | e1 | e1
   ·omega
   ·exact hm.2.2.2 (e1 ▸ hg)
   ·have := row_cells hd.cp.todo e1 hm.1; cases this
   ·have := row_cells hd.und e1 hm.1; cases this
 ·rcases e1 with e1 | e1 | e1 | e1
  ·exact e1 ▸ hd.lo
  ·exact e1 ▸ (hd.cp.d4 g hg).1.1
  ·exact (World.ownsRow.lt hd.cp.todo q e1).1
  ·exact (World.ownsRow.lt hd.und q e1).1
 ·rcases hn7 with e2 | e2
  ·exact h.rb.1 (by rw [← e2]; exact e1)
  ·have := e2 _ e1; omega
 ·rcases hn9 with e2 | e2
  ·exact h.rb.2 (by rw [← e2]; exact e1)
  ·have := e2 _ e1; omega
 ·rcases hs with e1 | e1 | e1 | e1
  ·exact e1 ▸ h.sD
  ·exact e1 ▸ h.s4 g hg
  ·exact h.st q hq e1
  ·exact h.su q hq e1
 ·rcases hn7 with e2 | e2
  ·exact h.st q hq (by rw [← e2]; exact e1)
  ·have := e2 _ e1; omega
 ·rcases hn9 with e2 | e2
  ·exact h.su q hq (by rw [← e2]; exact e1)
  ·have := e2 _ e1; omega
set_option maxRecDepth 100000 in
set_option maxHeartbeats 64000000 in
theorem goBackF (B D : Nat) (p : Pa) (e : Ev) (vr vp vt va : Value) (A1 A4 : Nat → Prop) (w : World) (hw : p.wt ≤ 1048576) (hg : GoodP p) (he : e.ok = true) (hB : B ≤ w.heap.size) (S : Nat → Prop) (hSD : S D) (hS4 : ∀ q, A4 q → S q) (hSt : ∀ q, vt.ownBlock = some q → S q) (h : DoR B D w vr vp vt va (.slice none 0 0) A1 A4 p.rev []) :
  Calls Tryz.prog 121 #[.pointer (some ⟨D, 0, none⟩), e.val] w fun r w' => (∃ u, r = .returned u) ∧ (∃ vr' vp' vt' vu' A1' A4', DoR B D w' vr' vp' vt' va vu' A1' A4' (p.back (cutK p.p e)).rev (undoL p.p (cutK p.p e))) ∧ Below B w w' ∧ Turns S w w' := by
 have HG : Hid (GoodP p) := hg
 have HWT : Hid (p.wt ≤ 1048576) := hw
 have HEV : Hid (e.ok = true) := he
 obtain ⟨W0, hW0⟩ : ∃ V, (w.alloc (.cells #[.pointer (some ⟨D, 0, none⟩)] 98)).alloc (.cells #[.int .i64 e.t, .int .i64 e.s, .int .i64 e.q, .int .i64 e.d, .int .i64 e.k, .int .i64 e.v, .int .i64 e.g] 55) = V := ⟨_, rfl⟩
 have hb0 : Below w.heap.size w W0 := hW0 ▸ ((Below.refl _ w).alloc (Nat.le_refl _) _).alloc (by simp) _
 have H0 : Hid (GfS S B D va p e w W0 p.p.length [] vr vp vt (.slice none 0 0) A1 A4) := ⟨Nat.le_refl _, by rw [back_all, undo_all]; exact h.below hb0, fun i h1 h2 => by omega, hW0 ▸ (Bk.new w _ _).alloc _, hW0 ▸ Bk.newAt (by simp) _ _, List.nodup_nil, fun _ hE => by simp at hE, hb0.mono hB, fun q hq => hq.elim (fun h1 => (h.cp.d1 q h1).1.2) (fun h1 => (h.cp.d4 q h1).1.2), h.blk.lt, ⟨fun h1 => by have := owns_lt h.cp.todo h1; omega, fun h1 => by simp [Value.ownBlock] at h1⟩, Turns.of_below hb0, hS4, fun q _ e1 => hSt q e1, fun q _ e1 => by simp [Value.ownBlock] at e1, hSD⟩
 have HW0 := hidPGf hW0
 clear hg hw he h hb0 hW0
 refine (callsIn_wide (n := 5)).1 ?_
 refine callsIn_of_wp_marks Tryz.func121 rfl trivial ?_ rfl
 simp only [Tryz.ntmps121, List.size_toArray, List.length_cons, List.length_nil, Nat.reduceAdd, Nat.reduceSub, Array.replicate_succ, Array.replicate_zero, List.push_toArray, List.append_toArray, List.nil_append, List.cons_append]
 gi_wp2_with fail
 rw [HW0.out]
 clear HW0
 refine wpIn_loop (fun a W => ∃ (j : Nat) (Ds : List Nat) (vr vp vt vu : Value) (A1 A4 : Nat → Prop) (t4 t5 t6 t7 t8 t9 t10 t11 t12 t13 t14 t15 t16 t17 t18 t19 t20 t21 t22 t23 t24 t25 t26 t27 t28 t29 t30 t31 t32 t33 t34 t35 t36 t37 t38 t39 t40 t41 t42 t43 t44 t45 t46 t47 t48 t49 t50 t51 t52 t53 t54 : Value), a = { tmps := #[.pointer (some ⟨D, 0, none⟩), e.val, .pointer (some ⟨w.heap.size, 0, none⟩), .pointer (some ⟨w.heap.size + 1, 0, none⟩), t4, t5, t6, t7, t8, t9, t10, t11, t12, t13, t14, t15, t16, t17, t18, t19, t20, t21, t22, t23, t24, t25, t26, t27, t28, t29, t30, t31, t32, t33, t34, t35, t36, t37, t38, t39, t40, t41, t42, t43, t44, t45, t46, t47, t48, t49, t50, t51, t52, t53, t54], defers := marks Ds } ∧ GfS S B D va p e w W j Ds vr vp vt vu A1 A4) (fun _ W => lenAt W D 4) ⟨p.p.length, [], vr, vp, vt, .slice none 0 0, A1, A4, _, _, _, _, _, _, _, _, _, _, _, _, _, _, _, _, _, _, _, _, _, _, _, _, _, _, _, _, _, _, _, _, _, _, _, _, _, _, _, _, _, _, _, _, _, _, _, _, _, _, _, rfl, H0.out⟩ ?_
 clear H0
 rintro a W ⟨j, Ds, vr, vp, vt, vu, A1, A4, t4, t5, t6, t7, t8, t9, t10, t11, t12, t13, t14, t15, t16, t17, t18, t19, t20, t21, t22, t23, t24, t25, t26, t27, t28, t29, t30, t31, t32, t33, t34, t35, t36, t37, t38, t39, t40, t41, t42, t43, t44, t45, t46, t47, t48, t49, t50, t51, t52, t53, t54, rfl, hS⟩
 have HS := hidPGf hS
 obtain ⟨a4, c4, e4, hn4, hm4, ha4⟩ := OwnD.parts (c := 12) (n := (p.back j).rev.p.length) hS.doer.cp.past
 have hlen : (p.back j).rev.p.length = j := by show (p.p.take j).length = j; rw [List.length_take]; have := hS.le; omega
 rw [hlen] at e4 hn4 ha4
 subst e4
 have x0 := hS.box.cell (i := 0) rfl
 have hDl := hS.doer.blk.lt
 by_cases hj0 : j = 0
 ·subst hj0
  have HBA : Hid (0 = cutK p.p e) := BackAt.cut HG.out ⟨Nat.zero_le _, HS.out.hi, fun h => absurd h (by omega)⟩
  gi_wp2_with (refine ⟨trivial, ?_⟩; gi_at_call 168; refine (callsIn_wide.2 (top_none D c4 a4 _ _ _ _ _ _ _ W HS.out.doer.blk)).mono ?_; rintro r w2 ⟨rfl, hb2⟩)
  refine ⟨trivial, ?_⟩
  gi_wp2
  exact GfS.leaves (HS.out.below hB (hb2.trans (((Below.refl _ w2).alloc (Nat.le_refl _) _).mono hb2.size))) hB HBA.out _
 ·obtain ⟨k, rfl⟩ : ∃ k, j = k + 1 := ⟨j - 1, by omega⟩
  have hkl : k < p.p.length := by have := hS.le; omega
  obtain ⟨g, u7, u10, u11, K7, K10, A4', hag, hA4g, hgl, hcap, hPs, hO7, hO10, hI11, hfz, hK7, hK10, hA4', hrest⟩ := past_last (l := p.p) hkl hS.doer.cp.past
  subst hag
  obtain ⟨a7, c7, rfl, _⟩ := OwnD.parts (c := 1) (n := (psAt p.p k).b.r.length) hO7
  obtain ⟨a10, c10, rfl, _⟩ := OwnD.parts (c := 7) (n := (psAt p.p k).s.length) hO10
  obtain ⟨a11, c11, rfl, _⟩ := IsD.len (c := 3) (n := (psAt p.p k).x.length) hI11
  have hpl : p.p.length ≤ 200 := HG.out.1.1
  have hok : (psAt p.p k).e.ok = true := by
   have h1 := HG.out.2.2.2.2.1.1 k (by rw [all_length]; omega)
   rw [all_done p hkl] at h1
   exact h1
  have HEQ := hidPGf (ecmp_iff hok HEV.out)
  obtain ⟨z, hz⟩ : ∃ z, (psAt p.p k).e.ecmp e = z := ⟨_, rfl⟩
  have HZ := hidPGf hz
  have HPs := hidPGf hPs
  have HX : Hid (OwnD W K7 (.slice a7 (psAt p.p k).b.r.length c7) (intsD (psAt p.p k).b.r) ∧ OwnD W K10 (.slice a10 (psAt p.p k).s.length c10) (evsD (psAt p.p k).s)) := ⟨hO7, hO10⟩
  have HFZ := hidPGf hfz
  have HK : Hid ((∀ q, K7 q → A4 q ∧ q ≠ g ∧ ¬ A4' q ∧ ¬ K10 q) ∧ (∀ q, K10 q → A4 q ∧ q ≠ g ∧ ¬ A4' q) ∧ (∀ q, A4' q → A4 q)) := ⟨hK7, hK10, hA4'⟩
  have HRS := hidPGf hrest
  have HA4g : Hid (A4 g) := hA4g
  have HCAP := hidPGf hcap
  clear hz hPs hO7 hO10 hI11 hfz hK7 hK10 hA4' hrest hS hn4 hm4 ha4 hcap hA4g hlen
  by_cases hz1 : z = -1
  ·have hzb : (z == -1) = true := by simp [hz1]
   have HBA : Hid (k + 1 = cutK p.p e) := BackAt.cut HG.out ⟨by omega, HS.out.hi, fun _ => by rw [show k + 1 - 1 = k from rfl]; exact HEQ.out.1 (HZ.out.trans hz1)⟩
   clear hz1
   gi_wp2_with (refine ⟨trivial, ?_⟩; first | (gi_at_call 168; refine (callsIn_wide.2 (top_last D g (k + 1) k c4 _ _ _ _ _ _ _ (psAt p.p k) a7 a10 a11 c7 c10 c11 W rfl (by omega) hgl HS.out.doer.blk HPs.out)).mono ?_; rintro r w2 ⟨rfl, hb2⟩; obtain ⟨W3, hW3⟩ : ∃ V, w2.alloc (.cells #[.int .i64 (psAt p.p k).e.t, .int .i64 (psAt p.p k).e.s, .int .i64 (psAt p.p k).e.q, .int .i64 (psAt p.p k).e.d, .int .i64 (psAt p.p k).e.k, .int .i64 (psAt p.p k).e.v, .int .i64 (psAt p.p k).e.g, .slice a7 (psAt p.p k).b.r.length c7, .int .i64 (psAt p.p k).b.q, .int .i64 (psAt p.p k).b.d, .slice a10 (psAt p.p k).s.length c10, .slice a11 (psAt p.p k).x.length c11] 126) = V := ⟨_, rfl⟩; have hb3 : Below W.heap.size W W3 := (hb2.trans ((hW3 ▸ (Below.refl _ w2).alloc (Nat.le_refl _) _ : Below w2.heap.size w2 W3).mono hb2.size)); have HX3 : Hid (Bk W3 w2.heap.size 126 #[.int .i64 (psAt p.p k).e.t, .int .i64 (psAt p.p k).e.s, .int .i64 (psAt p.p k).e.q, .int .i64 (psAt p.p k).e.d, .int .i64 (psAt p.p k).e.k, .int .i64 (psAt p.p k).e.v, .int .i64 (psAt p.p k).e.g, .slice a7 (psAt p.p k).b.r.length c7, .int .i64 (psAt p.p k).b.q, .int .i64 (psAt p.p k).b.d, .slice a10 (psAt p.p k).s.length c10, .slice a11 (psAt p.p k).x.length c11]) := (hW3 ▸ Bk.new _ _ _ : Bk W3 w2.heap.size 126 #[.int .i64 (psAt p.p k).e.t, .int .i64 (psAt p.p k).e.s, .int .i64 (psAt p.p k).e.q, .int .i64 (psAt p.p k).e.d, .int .i64 (psAt p.p k).e.k, .int .i64 (psAt p.p k).e.v, .int .i64 (psAt p.p k).e.g, .slice a7 (psAt p.p k).b.r.length c7, .int .i64 (psAt p.p k).b.q, .int .i64 (psAt p.p k).b.d, .slice a10 (psAt p.p k).s.length c10, .slice a11 (psAt p.p k).x.length c11]); have HB3 : Hid (Below W.heap.size W W3) := hb3; have y0 := (HS.out.ev.below hb3).cell (i := 0) rfl; have y1 := (HS.out.ev.below hb3).cell (i := 1) rfl; have y2 := (HS.out.ev.below hb3).cell (i := 2) rfl; have y3 := (HS.out.ev.below hb3).cell (i := 3) rfl; have y4 := (HS.out.ev.below hb3).cell (i := 4) rfl; have y5 := (HS.out.ev.below hb3).cell (i := 5) rfl; have y6 := (HS.out.ev.below hb3).cell (i := 6) rfl; have q0 := HX3.out.cell (i := 0) rfl; have q1 := HX3.out.cell (i := 1) rfl; have q2 := HX3.out.cell (i := 2) rfl; have q3 := HX3.out.cell (i := 3) rfl; have q4 := HX3.out.cell (i := 4) rfl; have q5 := HX3.out.cell (i := 5) rfl; have q6 := HX3.out.cell (i := 6) rfl) | (gi_at_call 42; refine (callsIn_wide.2 (iCmp_ev (psAt p.p k).e e z HZ.out _)).mono ?_; rintro r w4 ⟨rfl, hb4⟩))
   exact GfS.leaves (HS.out.below hB (HB3.out.trans (hb4.mono HB3.out.size))) hB HBA.out _
  have hzb : (z == -1) = false := beq_eq_false_iff_ne.2 hz1
  have HNC : Hid (¬ (psAt p.p k).e.cmp e < 0) := fun h9 => hz1 (HZ.out.symm.trans (HEQ.out.2 h9))
  have hgD : g ≠ D := fun h9 => HS.out.doer.dD.2 (h9 ▸ HA4g.out)
  have hgW : g < W.heap.size := hgl
  clear hz1
  gi_wp2_with (refine ⟨trivial, ?_⟩; first | (gi_at_call 168; refine (callsIn_wide.2 (top_last D g (k + 1) k c4 _ _ _ _ _ _ _ (psAt p.p k) a7 a10 a11 c7 c10 c11 W rfl (by omega) hgl HS.out.doer.blk HPs.out)).mono ?_; rintro r w2 ⟨rfl, hb2⟩; obtain ⟨W3, hW3⟩ : ∃ V, w2.alloc (.cells #[.int .i64 (psAt p.p k).e.t, .int .i64 (psAt p.p k).e.s, .int .i64 (psAt p.p k).e.q, .int .i64 (psAt p.p k).e.d, .int .i64 (psAt p.p k).e.k, .int .i64 (psAt p.p k).e.v, .int .i64 (psAt p.p k).e.g, .slice a7 (psAt p.p k).b.r.length c7, .int .i64 (psAt p.p k).b.q, .int .i64 (psAt p.p k).b.d, .slice a10 (psAt p.p k).s.length c10, .slice a11 (psAt p.p k).x.length c11] 126) = V := ⟨_, rfl⟩; have hb3 : Below W.heap.size W W3 := (hb2.trans ((hW3 ▸ (Below.refl _ w2).alloc (Nat.le_refl _) _ : Below w2.heap.size w2 W3).mono hb2.size)); have HX3 : Hid (Bk W3 w2.heap.size 126 #[.int .i64 (psAt p.p k).e.t, .int .i64 (psAt p.p k).e.s, .int .i64 (psAt p.p k).e.q, .int .i64 (psAt p.p k).e.d, .int .i64 (psAt p.p k).e.k, .int .i64 (psAt p.p k).e.v, .int .i64 (psAt p.p k).e.g, .slice a7 (psAt p.p k).b.r.length c7, .int .i64 (psAt p.p k).b.q, .int .i64 (psAt p.p k).b.d, .slice a10 (psAt p.p k).s.length c10, .slice a11 (psAt p.p k).x.length c11]) := (hW3 ▸ Bk.new _ _ _ : Bk W3 w2.heap.size 126 #[.int .i64 (psAt p.p k).e.t, .int .i64 (psAt p.p k).e.s, .int .i64 (psAt p.p k).e.q, .int .i64 (psAt p.p k).e.d, .int .i64 (psAt p.p k).e.k, .int .i64 (psAt p.p k).e.v, .int .i64 (psAt p.p k).e.g, .slice a7 (psAt p.p k).b.r.length c7, .int .i64 (psAt p.p k).b.q, .int .i64 (psAt p.p k).b.d, .slice a10 (psAt p.p k).s.length c10, .slice a11 (psAt p.p k).x.length c11]); have HB3 : Hid (Below W.heap.size W W3) := hb3; have y0 := (HS.out.ev.below hb3).cell (i := 0) rfl; have y1 := (HS.out.ev.below hb3).cell (i := 1) rfl; have y2 := (HS.out.ev.below hb3).cell (i := 2) rfl; have y3 := (HS.out.ev.below hb3).cell (i := 3) rfl; have y4 := (HS.out.ev.below hb3).cell (i := 4) rfl; have y5 := (HS.out.ev.below hb3).cell (i := 5) rfl; have y6 := (HS.out.ev.below hb3).cell (i := 6) rfl; have q0 := HX3.out.cell (i := 0) rfl; have q1 := HX3.out.cell (i := 1) rfl; have q2 := HX3.out.cell (i := 2) rfl; have q3 := HX3.out.cell (i := 3) rfl; have q4 := HX3.out.cell (i := 4) rfl; have q5 := HX3.out.cell (i := 5) rfl; have q6 := HX3.out.cell (i := 6) rfl) | (gi_at_call 42; refine (callsIn_wide.2 (iCmp_ev (psAt p.p k).e e z HZ.out _)).mono ?_; rintro r w4 ⟨rfl, hb4⟩; have hb04 : Below W.heap.size W w4 := HB3.out.trans (hb4.mono HB3.out.size); have HB4 : Hid (Below W.heap.size W w4) := hb04; have HX4 : Hid (Bk w4 w2.heap.size 126 #[.int .i64 (psAt p.p k).e.t, .int .i64 (psAt p.p k).e.s, .int .i64 (psAt p.p k).e.q, .int .i64 (psAt p.p k).e.d, .int .i64 (psAt p.p k).e.k, .int .i64 (psAt p.p k).e.v, .int .i64 (psAt p.p k).e.g, .slice a7 (psAt p.p k).b.r.length c7, .int .i64 (psAt p.p k).b.q, .int .i64 (psAt p.p k).b.d, .slice a10 (psAt p.p k).s.length c10, .slice a11 (psAt p.p k).x.length c11]) := HX3.out.below hb4; have x0b := (HS.out.box.below hb04).cell (i := 0) rfl; have HW4 : Hid (PsAt w4 g (k * 12) (psAt p.p k) (.slice a7 (psAt p.p k).b.r.length c7) (.slice a10 (psAt p.p k).s.length c10) (.slice a11 (psAt p.p k).x.length c11) ∧ (∀ i, i < (k + 1) * 12 → w4.frozen? ⟨g, i, none⟩ = false)) := ⟨HPs.out.below hb04 hgW, fun i hi => (hb04.frozen (p := ⟨g, i, none⟩) hgW).trans (HFZ.out i hi)⟩; have hs4 : W.heap.size ≤ w4.heap.size := hb04.size; have hs34 : W3.heap.size ≤ w4.heap.size := hb4.size; have hs23 : w2.heap.size < W3.heap.size := HX3.out.lt; have hs2 : W.heap.size ≤ w2.heap.size := hb2.size) | (gi_at_call 169; refine (callsIn_wide.2 (pop_last D g (k + 1) k c4 _ _ _ _ _ _ _ (psAt p.p k) a7 a10 a11 c7 c10 c11 w4 rfl (by omega) HCAP.out hgD (by omega) (HS.out.doer.blk.below HB4.out) HW4.out.1 HW4.out.2)).mono ?_; rintro r w5 ⟨rfl, hB5, hlow5, ht5⟩))
  clear hzb x0 x0b y0 y1 y2 y3 y4 y5 y6 q0 q1 q2 q3 q4 q5 q6 hW3
  have hwW : w.heap.size ≤ W.heap.size := HS.out.bel.size
  have hgw : g < w.heap.size := HS.out.lim g (.inr HA4g.out)
  have hDw : D < w.heap.size := HS.out.dl
  have hs5 : w4.heap.size ≤ w5.heap.size := ht5.size
  have HD5 : Hid (Bk w5 D 157 _) := hB5
  have HB5b := hidPGf ((HS.out.box.below HB4.out).turns ht5 (by omega))
  have HE5 := hidPGf ((HS.out.ev.below HB4.out).turns ht5 (by omega))
  have HX5 := hidPGf (HX4.out.turns ht5 (by omega))
  have HT5 := hidPGf ht5
  have HLO := hidPGf hlow5
  have HO5 : Hid (w5.ownsRow B 55 7 vt (p.back (k + 1)).t.reverse.length (cellsL (p.back (k + 1)).t.reverse)) := by
   have hd := HS.out.doer
   exact owns_turns (S := fun q => q = D ∨ q = g) (owns_turns (S := fun _ => False) hd.cp.todo (Turns.of_below HB4.out) (fun _ _ => id)) ht5 (fun q hq e1 => e1.elim (fun e2 => hd.neT.1 (e2 ▸ hq)) (fun e2 => (hd.cp.d4 g HA4g.out).2.1 (e2 ▸ hq)))
  clear hB5 hlow5 ht5
  refine wpIn_only (wpIn_region_z 5 (fun W => W.cell? ⟨w.heap.size, 0, none⟩ = some (.pointer (some ⟨D, 0, none⟩)) ∧ W.cell? ⟨w2.heap.size, 7, none⟩ = some (.slice a7 (psAt p.p k).b.r.length c7) ∧ W.cell? ⟨w2.heap.size, 8, none⟩ = some (.int .i64 (psAt p.p k).b.q) ∧ W.cell? ⟨w2.heap.size, 9, none⟩ = some (.int .i64 (psAt p.p k).b.d)) openWide (only_out _) (by kernel_rfl) (by kernel_rfl) ⟨HB5b.out.cell rfl, HX5.out.cell rfl, HX5.out.cell rfl, HX5.out.cell rfl⟩ (fun hHeld => ?_))
  refine wpAnyZ_take (i := 0) (oi := { dst := some 28, op := Op.load 98 (Operand.tmp 2), type := 98, pos := _, after := _, guard := none }) (v := .pointer (some ⟨D, 0, none⟩)) 2 [1, 0] rfl (by kernel_rfl) (by kernel_rfl) (by kernel_rfl) (by kernel_rfl) (by kernel_rfl) (fun _ _ _ h => nomatch h.1) (Or.inl ⟨by rfl, ?_⟩) (by assumption) ?_
  ·intro wX hSw
   try dsimp only at hSw
   go_simp
   try exact IntWalk.i64_in _ (by omega)
  try simp only [Act.put, List.setIfInBounds_toArray, List.set_cons_zero, List.set_cons_succ]
  refine wpAnyZ_take (i := 1) (oi := { dst := some 29, op := Op.nilCheck (Operand.tmp 28), type := 0, pos := _, after := _, guard := none }) (v := .pointer (some ⟨D, 0, none⟩)) 2 [1] rfl (by kernel_rfl) (by kernel_rfl) (by kernel_rfl) (by kernel_rfl) (by kernel_rfl) (fun _ _ _ h => nomatch h.1) (Or.inl ⟨by rfl, ?_⟩) (by assumption) ?_
  ·intro wX hSw
   try dsimp only at hSw
   go_simp
   try exact IntWalk.i64_in _ (by omega)
  try simp only [Act.put, List.setIfInBounds_toArray, List.set_cons_zero, List.set_cons_succ]
  refine wpAnyZ_take (i := 2) (oi := { dst := some 30, op := Op.fieldAddr 157 (Operand.tmp 29) 0, type := 0, pos := _, after := _, guard := none }) (v := .pointer (some ⟨D, 0, none⟩)) 2 [] rfl (by kernel_rfl) (by kernel_rfl) (by kernel_rfl) (by kernel_rfl) (by kernel_rfl) (fun _ _ _ h => nomatch h.1) (Or.inl ⟨by rfl, ?_⟩) (by assumption) ?_
  ·intro wX hSw
   try dsimp only at hSw
   go_simp
   try exact IntWalk.i64_in _ (by omega)
  try simp only [Act.put, List.setIfInBounds_toArray, List.set_cons_zero, List.set_cons_succ]
  refine wpAnyZ_take (i := 3) (oi := { dst := some 31, op := Op.fieldAddr 126 (Operand.tmp 4) 1, type := 0, pos := _, after := _, guard := none }) (v := .pointer (some ⟨w2.heap.size, 7, none⟩)) 4 [3] rfl (by kernel_rfl) (by kernel_rfl) (by kernel_rfl) (by kernel_rfl) (by kernel_rfl) (fun _ _ _ h => nomatch h.1) (Or.inl ⟨by rfl, ?_⟩) (by assumption) ?_
  ·intro wX hSw
   try dsimp only at hSw
   go_simp
   try exact IntWalk.i64_in _ (by omega)
  try simp only [Act.put, List.setIfInBounds_toArray, List.set_cons_zero, List.set_cons_succ]
  refine wpAnyZ_take (i := 4) (oi := { dst := some 32, op := Op.load 29 (Operand.tmp 31), type := 29, pos := _, after := _, guard := none }) (v := .agg #[.slice a7 (psAt p.p k).b.r.length c7, .int .i64 (psAt p.p k).b.q, .int .i64 (psAt p.p k).b.d]) 4 [] rfl (by kernel_rfl) (by kernel_rfl) (by kernel_rfl) (by kernel_rfl) (by kernel_rfl) (fun _ _ _ h => nomatch h.1) (Or.inl ⟨by rfl, ?_⟩) (by assumption) ?_
  ·intro wX hSw
   try dsimp only at hSw
   go_simp
   try exact IntWalk.i64_in _ (by omega)
  try simp only [Act.put, List.setIfInBounds_toArray, List.set_cons_zero, List.set_cons_succ]
  refine wpAnyZ_ready (rs := [5]) (by kernel_rfl) (by simp) ?_
  refine AllReadyZ.last (o := { dst := some 33, op := Op.call { callee := Callee.value (Operand.func 140), args := #[Operand.tmp 30, Operand.tmp 32], argTypes := #[29, 29] }, type := 0, pos := _, after := _, guard := none }) rfl (fun K hK => ?_)
  go_simp
  refine (become_any D _ _ _ _ _ _ _ _ a7 (psAt p.p k).b.r.length c7 (psAt p.p k).b.q (psAt p.p k).b.d w5.drew HD5.out.drew).mono ?_
  rintro r w6 ⟨⟨ur, rfl⟩, hB6, ht6⟩
  try go_simp
  refine hK.out _ _ ?_
  clear hK K
  try simp only [Act.put, List.setIfInBounds_toArray, List.set_cons_zero, List.set_cons_succ]
  refine wpAnyZ_done (by kernel_rfl) ?_ _
  clear hHeld
  refine ⟨rfl, ?_⟩
  have ht6' : Turns (fun q => q = D) w5 w6 := (Turns.of_below (Below.refl _ w5).drew).trans ht6
  have hs6 : w5.heap.size ≤ w6.heap.size := ht6'.size
  have HD6 : Hid (Bk w6 D 157 _) := hB6
  have HB6b := hidPGf (HB5b.out.turns ht6' (by omega))
  have HE6 := hidPGf (HE5.out.turns ht6' (by omega))
  have HX6 := hidPGf (HX5.out.turns ht6' (by omega))
  have HO6 : Hid (w6.ownsRow B 55 7 vt (p.back (k + 1)).t.reverse.length (cellsL (p.back (k + 1)).t.reverse)) := owns_turns HO5.out ht6' (fun q hq e1 => HS.out.doer.neT.1 (e1 ▸ hq))
  have HT6 := hidPGf ht6'
  have hBw6 : B ≤ w6.heap.size := by omega
  have hTL : (p.back (k + 1)).t.length + 1 ≤ 1048577 := by
   have h9 := back_wt HG.out HWT.out (show k + 1 ≤ p.p.length by omega)
   have h7 : (p.back (k + 1)).t.length ≤ (p.back (k + 1)).wt := by unfold Pa.wt; rw [evs_wt]; omega
   omega
  clear hB6 ht6 ht6' HB5b HE5 HX5 HO5 HD5
  gi_wp2_with fail
  refine wpIn_only (wpIn_region_z 5 (fun W => W.cell? ⟨w.heap.size, 0, none⟩ = some (.pointer (some ⟨D, 0, none⟩)) ∧ W.cell? ⟨w2.heap.size, 0, none⟩ = some (.int .i64 (psAt p.p k).e.t) ∧ W.cell? ⟨w2.heap.size, 1, none⟩ = some (.int .i64 (psAt p.p k).e.s) ∧ W.cell? ⟨w2.heap.size, 2, none⟩ = some (.int .i64 (psAt p.p k).e.q) ∧ W.cell? ⟨w2.heap.size, 3, none⟩ = some (.int .i64 (psAt p.p k).e.d) ∧ W.cell? ⟨w2.heap.size, 4, none⟩ = some (.int .i64 (psAt p.p k).e.k) ∧ W.cell? ⟨w2.heap.size, 5, none⟩ = some (.int .i64 (psAt p.p k).e.v) ∧ W.cell? ⟨w2.heap.size, 6, none⟩ = some (.int .i64 (psAt p.p k).e.g)) openWide (only_out _) (by kernel_rfl) (by kernel_rfl) ⟨HB6b.out.cell rfl, HX6.out.cell rfl, HX6.out.cell rfl, HX6.out.cell rfl, HX6.out.cell rfl, HX6.out.cell rfl, HX6.out.cell rfl, HX6.out.cell rfl⟩ (fun hHeld => ?_))
  refine wpAnyZ_take (i := 0) (oi := { dst := some 34, op := Op.load 98 (Operand.tmp 2), type := 98, pos := _, after := _, guard := none }) (v := .pointer (some ⟨D, 0, none⟩)) 2 [1, 0] rfl (by kernel_rfl) (by kernel_rfl) (by kernel_rfl) (by kernel_rfl) (by kernel_rfl) (fun _ _ _ h => nomatch h.1) (Or.inl ⟨by rfl, ?_⟩) (by assumption) ?_
  ·intro wX hSw
   try dsimp only at hSw
   go_simp
   try exact IntWalk.i64_in _ (by omega)
  try simp only [Act.put, List.setIfInBounds_toArray, List.set_cons_zero, List.set_cons_succ]
  refine wpAnyZ_take (i := 1) (oi := { dst := some 35, op := Op.nilCheck (Operand.tmp 34), type := 0, pos := _, after := _, guard := none }) (v := .pointer (some ⟨D, 0, none⟩)) 2 [1] rfl (by kernel_rfl) (by kernel_rfl) (by kernel_rfl) (by kernel_rfl) (by kernel_rfl) (fun _ _ _ h => nomatch h.1) (Or.inl ⟨by rfl, ?_⟩) (by assumption) ?_
  ·intro wX hSw
   try dsimp only at hSw
   go_simp
   try exact IntWalk.i64_in _ (by omega)
  try simp only [Act.put, List.setIfInBounds_toArray, List.set_cons_zero, List.set_cons_succ]
  refine wpAnyZ_take (i := 2) (oi := { dst := some 36, op := Op.fieldAddr 157 (Operand.tmp 35) 3, type := 0, pos := _, after := _, guard := none }) (v := .pointer (some ⟨D, 5, none⟩)) 2 [] rfl (by kernel_rfl) (by kernel_rfl) (by kernel_rfl) (by kernel_rfl) (by kernel_rfl) (fun _ _ _ h => nomatch h.1) (Or.inl ⟨by rfl, ?_⟩) (by assumption) ?_
  ·intro wX hSw
   try dsimp only at hSw
   go_simp
   try exact IntWalk.i64_in _ (by omega)
  try simp only [Act.put, List.setIfInBounds_toArray, List.set_cons_zero, List.set_cons_succ]
  refine wpAnyZ_take (i := 3) (oi := { dst := some 37, op := Op.fieldAddr 126 (Operand.tmp 4) 0, type := 0, pos := _, after := _, guard := none }) (v := .pointer (some ⟨w2.heap.size, 0, none⟩)) 4 [3] rfl (by kernel_rfl) (by kernel_rfl) (by kernel_rfl) (by kernel_rfl) (by kernel_rfl) (fun _ _ _ h => nomatch h.1) (Or.inl ⟨by rfl, ?_⟩) (by assumption) ?_
  ·intro wX hSw
   try dsimp only at hSw
   go_simp
   try exact IntWalk.i64_in _ (by omega)
  try simp only [Act.put, List.setIfInBounds_toArray, List.set_cons_zero, List.set_cons_succ]
  refine wpAnyZ_take (i := 4) (oi := { dst := some 38, op := Op.load 55 (Operand.tmp 37), type := 55, pos := _, after := _, guard := none }) (v := .agg #[.int .i64 (psAt p.p k).e.t, .int .i64 (psAt p.p k).e.s, .int .i64 (psAt p.p k).e.q, .int .i64 (psAt p.p k).e.d, .int .i64 (psAt p.p k).e.k, .int .i64 (psAt p.p k).e.v, .int .i64 (psAt p.p k).e.g]) 4 [] rfl (by kernel_rfl) (by kernel_rfl) (by kernel_rfl) (by kernel_rfl) (by kernel_rfl) (fun _ _ _ h => nomatch h.1) (Or.inl ⟨by rfl, ?_⟩) (by assumption) ?_
  ·intro wX hSw
   try dsimp only at hSw
   go_simp
   try exact IntWalk.i64_in _ (by omega)
  try simp only [Act.put, List.setIfInBounds_toArray, List.set_cons_zero, List.set_cons_succ]
  refine wpAnyZ_ready (rs := [5]) (by kernel_rfl) (by simp) ?_
  refine AllReadyZ.last (o := { dst := some 39, op := Op.call { callee := Callee.value (Operand.func 170), args := #[Operand.tmp 36, Operand.tmp 38], argTypes := #[155, 55] }, type := 0, pos := _, after := _, guard := none }) rfl (fun K hK => ?_)
  go_simp
  refine (push_any B D _ _ _ _ _ _ _ _ (p.back (k + 1)).t.reverse (psAt p.p k).e w6.drew hBw6 (by rw [List.length_reverse]; omega) HD6.out.drew HO6.out.drew).mono ?_
  rintro r w7 ⟨⟨ur, rfl⟩, vt', hB7, ho7, hn7, ht7⟩
  try go_simp
  refine hK.out _ _ ?_
  clear hK K
  try simp only [Act.put, List.setIfInBounds_toArray, List.set_cons_zero, List.set_cons_succ]
  refine wpAnyZ_done (by kernel_rfl) ?_ _
  clear hHeld
  refine ⟨rfl, ?_⟩
  have ht7' : Turns (fun q => q = D ∨ vt.ownBlock = some q) w6 w7 := (Turns.of_below (Below.refl _ w6).drew).trans ht7
  obtain ⟨hd7, hT7⟩ := popped hkl HS.out.doer HA4g.out HX.out.1 HK.out.1 HK.out.2.2 HRS.out HB4.out HLO.out HT5.out HT6.out hB7 ho7 hn7 ht7'
  have hs7 : w6.heap.size ≤ w7.heap.size := ht7'.size
  have HB7 := hidPGf (HB6b.out.turns ht7' (fun e1 => e1.elim (by omega) (owns_ne HO6.out HB6b.out (by decide))))
  have HX7 := hidPGf (HX6.out.turns ht7' (fun e1 => e1.elim (by omega) (owns_ne HO6.out HX6.out (by decide))))
  have HSN : Hid (OwnD w7 K10 (.slice a10 (psAt p.p k).s.length c10) (evsD (psAt p.p k).s)) := HX.out.2.turns hT7 (fun q hq e1 => by
   have h4 := HK.out.2.1 q hq
   rcases e1 with e1 | e1 | e1
   ·exact HS.out.doer.dD.2 (e1 ▸ h4.1)
   ·exact h4.2.1 e1
   ·exact (HS.out.doer.cp.d4 q h4.1).2.1 e1)
  have HD7 := hidPGf hd7
  have HT7 := hidPGf hT7
  have HN7 : Hid (NewRow w6 vt vt') := hn7
  have h67 : W.heap.size ≤ w6.heap.size := by omega
  have hz10 := HX7.out.cell (i := 10) rfl
  clear hB7 ho7 hn7 ht7 ht7' hd7 hT7 HB6b HE6 HX6 HO6 HD6 HX3 HX4 HW4
  gi_wp2_with (refine ⟨trivial, ?_⟩; gi_at_call 171; refine (callsIn_wide.2 (backward_any _ _ _ _)).mono ?_; rintro r w8' ⟨rfl, rfl⟩)
  obtain ⟨w8, hw8⟩ : ∃ V, w7.alloc (.cells #[.slice a10 (psAt p.p k).s.length c10] 31) = V := ⟨_, rfl⟩
  have hb8 : Below w7.heap.size w7 w8 := hw8 ▸ (Below.refl _ w7).alloc (Nat.le_refl _) _
  have hs8 : w8.heap.size = w7.heap.size + 1 := by rw [← hw8]; simp
  have HC8 : Hid (Bk w8 w7.heap.size 31 #[.slice a10 (psAt p.p k).s.length c10]) := hw8 ▸ Bk.new _ _ _
  have HB8 := hidPGf hb8
  have HBx8 := hidPGf (HB7.out.below hb8)
  have HD8 := hidPGf (HD7.out.below hb8)
  try rw [hw8]
  have hmo : Tryz.prog.follows .mixedOrders = true := by kernel_rfl
  have hU := undo_len (p := p) (show k ≤ p.p.length by omega)
  have hUw : (undoL p.p k).length ≤ 1048576 := by
   have h8 := HWT.out
   unfold Pa.wt at h8
   omega
  have hUs : (undoL p.p k).length = (undoL p.p (k + 1)).length + (psAt p.p k).s.length := by rw [undo_step hkl]; simp
  obtain ⟨b, hbI, hbl, hbD, hbu⟩ : ∃ b, ((psAt p.p k).s = [] ∨ ∃ off, a10 = some ⟨b, off, none⟩ ∧ EvsAt w8 b off (psAt p.p k).s) ∧ b < w8.heap.size ∧ b ≠ D ∧ ¬ vu.ownBlock = some b := by
   obtain ⟨a', c', he', _, _, h9⟩ := HSN.out.isD.isEvs
   obtain ⟨a2, c2, he2, _, _, h7⟩ := OwnD.parts (c := 7) (n := (psAt p.p k).s.length) HSN.out
   cases he'
   cases he2
   rcases h9 with h9 | ⟨b, off, h9, h10⟩
   ·exact ⟨w7.heap.size, .inl h9, by omega, by omega, fun e1 => by have := owns_lt HD7.out.und e1; omega⟩
   ·rcases h7 with h7 | ⟨g2, h7, h11, h12⟩
    ·exact ⟨w7.heap.size, .inl (List.eq_nil_of_length_eq_zero h7), by omega, by omega, fun e1 => by have := owns_lt HD7.out.und e1; omega⟩
    ·rw [h9] at h7
     cases h7
     have h13 := (HK.out.2.1 b h12).1
     exact ⟨b, .inr ⟨_, h9, h10.below hb8 h11⟩, by omega, fun e1 => HS.out.doer.dD.2 (e1 ▸ h13), fun e1 => (HS.out.doer.du b e1).2.1 h13⟩
  have HK8 : Hid ((∀ q, K7 q → q < w8.heap.size) ∧ (∀ q, A4' q → q < w8.heap.size)) := ⟨fun q hq => by have := HS.out.lim q (.inr (HK.out.1 q hq).1); omega, fun q hq => by have := HS.out.lim q (.inr (HK.out.2.2 q hq)); omega⟩
  clear hz10 hw8 hb8
  refine wpIn_rangeFunc_ownH rfl (by omega) (gf := 202) (lb := #[.pointer (some ⟨w7.heap.size, 0, none⟩)]) rfl trivial (enters_of Tryz.func202 (by kernel_rfl) rfl)
   (back_stops Fence.wide 4 trivial rfl (by omega) w7.heap.size b a10 c10 (psAt p.p k).s (by omega) w8 (by omega) (HC8.out.cell (i := 0) rfl) hbI) Same2.trans (Same2.putObj (by omega) (by omega)) (Below.refl _ _) (fun _ => rfl)
   (GfJ B D va p k (.slice a7 (psAt p.p k).b.r.length c7) (.slice (some ⟨g, 0, none⟩) k c4) vt' vu K7 A4' w8)
   (fun _ _ _ => False)
   (gf_own B D va p k _ _ _ _ K7 A4' w8 HK8.out.1 HK8.out.2)
   (fun _ _ _ _ _ hs _ _ => hs)
   ⟨vu, by rw [show bkOf (psAt p.p k).s [] = [] from rfl, List.append_nil]; exact HD8.out, .inl rfl, Turns.refl _ _⟩
   (fun x a' W3 => ∃ (Bx : Nat) (u0 u1 u3 u4 u5 u6 u8 u9 u10 u11 u12 u13 u14 u15 u16 u17 u18 u19 u20 u21 u22 u23 u24 u25 u26 u27 u28 u29 u30 u31 u32 u33 u34 u35 u36 u37 u38 u39 u40 u41 u42 u43 u44 u45 u46 u47 u48 u49 u50 u51 u52 u53 u54 : Value), w8.heap.size ≤ Bx ∧ Bk W3 Bx 55 #[.int .i64 (evAt (psAt p.p k).s ((psAt p.p k).s.length - 1 - x.val)).t, .int .i64 (evAt (psAt p.p k).s ((psAt p.p k).s.length - 1 - x.val)).s, .int .i64 (evAt (psAt p.p k).s ((psAt p.p k).s.length - 1 - x.val)).q, .int .i64 (evAt (psAt p.p k).s ((psAt p.p k).s.length - 1 - x.val)).d, .int .i64 (evAt (psAt p.p k).s ((psAt p.p k).s.length - 1 - x.val)).k, .int .i64 (evAt (psAt p.p k).s ((psAt p.p k).s.length - 1 - x.val)).v, .int .i64 (evAt (psAt p.p k).s ((psAt p.p k).s.length - 1 - x.val)).g] ∧ (∃ vs u, Bk W3 D 157 vs ∧ vs[7]? = some u ∧ ¬ u.ownBlock = some Bx) ∧ a' = { tmps := #[u0, u1, .pointer (some ⟨w.heap.size, 0, none⟩), u3, u4, u5, u6, .pointer (some ⟨Bx, 0, none⟩), u8, u9, u10, u11, u12, u13, u14, u15, u16, u17, u18, u19, u20, u21, u22, u23, u24, u25, u26, u27, u28, u29, u30, u31, u32, u33, u34, u35, u36, u37, u38, u39, u40, u41, u42, u43, u44, u45, u46, u47, u48, u49, u50, u51, u52, u53, u54], defers := [] })
   (fun x a' s X Y row hs hg hr => by
    obtain ⟨Bx, u0, u1, u3, u4, u5, u6, u8, u9, u10, u11, u12, u13, u14, u15, u16, u17, u18, u19, u20, u21, u22, u23, u24, u25, u26, u27, u28, u29, u30, u31, u32, u33, u34, u35, u36, u37, u38, u39, u40, u41, u42, u43, u44, u45, u46, u47, u48, u49, u50, u51, u52, u53, u54, h1, h2, ⟨vs, u, h3, h4, h5⟩, h6⟩ := hs
    have ht : Turns (fun q => row = some q) X Y := ⟨hg.os, hg.tape, hg.output, hg.size, fun q hq hn => hg.block q hq (fun e => hn e.symm)⟩
    exact ⟨Bx, u0, u1, u3, u4, u5, u6, u8, u9, u10, u11, u12, u13, u14, u15, u16, u17, u18, u19, u20, u21, u22, u23, u24, u25, u26, u27, u28, u29, u30, u31, u32, u33, u34, u35, u36, u37, u38, u39, u40, u41, u42, u43, u44, u45, u46, u47, u48, u49, u50, u51, u52, u53, u54, h1, h2.turns ht (fun e1 => by obtain ⟨o, ho, hc⟩ := (hr _ e1).2; rw [bk_cells h2 ho] at hc; cases hc), ⟨vs, u, h3.turns ht (fun e1 => by obtain ⟨o, ho, hc⟩ := (hr _ e1).2; rw [bk_cells h3 ho] at hc; cases hc), h4, h5⟩, h6⟩) ?assign ?body ?done ?stop
  case assign =>
   rintro lp pre x W3 K ⟨vu', hd3, hn3, ht3⟩ hK
   have hz3 := ht3.size
   have hul : ¬ vu'.ownBlock = some W3.heap.size := fun e1 => by have := owns_lt hd3.und e1; omega
   gi_wp2
   have hBW : Below W3.heap.size W3 (W3.alloc (.cells #[.int .i64 (evAt (psAt p.p k).s ((psAt p.p k).s.length - 1 - x.val)).t, .int .i64 (evAt (psAt p.p k).s ((psAt p.p k).s.length - 1 - x.val)).s, .int .i64 (evAt (psAt p.p k).s ((psAt p.p k).s.length - 1 - x.val)).q, .int .i64 (evAt (psAt p.p k).s ((psAt p.p k).s.length - 1 - x.val)).d, .int .i64 (evAt (psAt p.p k).s ((psAt p.p k).s.length - 1 - x.val)).k, .int .i64 (evAt (psAt p.p k).s ((psAt p.p k).s.length - 1 - x.val)).v, .int .i64 (evAt (psAt p.p k).s ((psAt p.p k).s.length - 1 - x.val)).g] 55)) := (Below.refl _ W3).alloc (Nat.le_refl _) _
   exact hK _ _ ((KeepsOthers.alloc _ _).from _) (Same2.below hBW (by omega) (by omega)) ⟨vu', hd3.below hBW, hn3, ht3.alloc _⟩ ⟨W3.heap.size, _, _, _, _, _, _, _, _, _, _, _, _, _, _, _, _, _, _, _, _, _, _, _, _, _, _, _, _, _, _, _, _, _, _, _, _, _, _, _, _, _, _, _, _, _, _, _, _, _, _, _, _, _, hz3, Bk.new W3 _ _, ⟨_, _, hd3.blk.alloc _, rfl, hul⟩, rfl⟩
  case stop =>
   rintro D c pre W3 _ _ h _
   exact h.elim
  case done =>
   rintro E ys W9 hE rfl hJ9 hE9
   obtain ⟨vu', hS9⟩ := GfS.step HS.out hB hkl (fun h9 => by have := HNC.out; omega) HA4g.out (fun q hq => (HK.out.1 q hq).1) HK.out.2.2 HT7.out h67 HN7.out HB8.out hJ9 hE hE9
   have hm : lenAt W9 D 4 < lenAt W D 4 := by rw [hS9.len, HS.out.len]; omega
   exact ⟨⟨k, E :: Ds, _, _, _, vu', _, _, _, _, _, _, _, _, _, _, _, _, _, _, _, _, _, _, _, _, _, _, _, _, _, _, _, _, _, _, _, _, _, _, _, _, _, _, _, _, _, _, _, _, _, _, _, _, _, _, _, _, _, rfl, hS9⟩, hm⟩
  case body =>
   rintro lp pre x a' W3 hlp _ ⟨vu', hd3, hn3, ht3⟩ ⟨Bx, u0, u1, u3, u4, u5, u6, u8, u9, u10, u11, u12, u13, u14, u15, u16, u17, u18, u19, u20, u21, u22, u23, u24, u25, u26, u27, u28, u29, u30, u31, u32, u33, u34, u35, u36, u37, u38, u39, u40, u41, u42, u43, u44, u45, u46, u47, u48, u49, u50, u51, u52, u53, u54, h1, h2, ⟨vs, u, h3, h4, h5⟩, rfl⟩ hlt
   have hz3 := ht3.size
   obtain ⟨ie, hie, hie0, hie1, hie2⟩ := info_parts infoEvE
   have hne3 : ¬ vu'.ownBlock = some Bx := by
    have h9 : W3.heap[D]? = _ := h3
    have h8 : W3.heap[D]? = _ := hd3.blk
    rw [h8] at h9
    cases h9
    cases h4
    exact h5
   have hlen : (undoL p.p (k + 1) ++ bkOf (psAt p.p k).s pre).length + 1 ≤ 1048577 := by
    have : (bkOf (psAt p.p k).s pre).length = pre.length := by simp [bkOf]
    rw [List.length_append]
    omega
   have hsn : undoL p.p (k + 1) ++ bkOf (psAt p.p k).s (pre ++ [x]) = undoL p.p (k + 1) ++ bkOf (psAt p.p k).s pre ++ [(evAt (psAt p.p k).s ((psAt p.p k).s.length - 1 - x.val))] := by rw [bkOf_snoc, List.append_assoc]
   have HSNC : Hid _ := hsn
   obtain ⟨y, hy⟩ : ∃ y, (evAt (psAt p.p k).s ((psAt p.p k).s.length - 1 - x.val)) = y := ⟨_, rfl⟩
   rw [hy] at h2 hsn
   obtain ⟨l, hl⟩ : ∃ l, undoL p.p (k + 1) ++ bkOf (psAt p.p k).s pre = l := ⟨_, rfl⟩
   rw [hl] at hd3 hsn hlen
   obtain ⟨a5, c5, hv5⟩ := owns_slice hd3.und
   subst hv5
   have HL := hidPGf hsn
   have HD33 := hidPGf hd3
   have HB3 := hidPGf (HBx8.out.turns ht3 (fun e1 => e1.elim (by omega) (owns_ne HD8.out.und HBx8.out (by decide))))
   have HD3 : Hid (Bk W3 D 157 _) := hd3.blk
   have HE3 : Hid (Bk W3 Bx 55 _) := h2
   have HO3 := hidPGf hd3.und
   have HNE := hidPGf hne3
   have HN3 := hidPGf hn3
   have HT3 := hidPGf ht3
   have hBV : B ≤ W3.heap.size := by omega
   clear hd3 hn3 ht3 h2 h3 h4 h5 hne3 hsn hl hy HSNC
   gi_wp2
   refine wpIn_only' (wpIn_region_z 10 (fun W => W.cell? ⟨w.heap.size, 0, none⟩ = some (.pointer (some ⟨D, 0, none⟩)) ∧ W.cell? ⟨D, 7, none⟩ = some (.slice a5 l.length c5) ∧ W.cell? ⟨Bx, 0, none⟩ = some (.int .i64 y.t) ∧ W.cell? ⟨Bx, 1, none⟩ = some (.int .i64 y.s) ∧ W.cell? ⟨Bx, 2, none⟩ = some (.int .i64 y.q) ∧ W.cell? ⟨Bx, 3, none⟩ = some (.int .i64 y.d) ∧ W.cell? ⟨Bx, 4, none⟩ = some (.int .i64 y.k) ∧ W.cell? ⟨Bx, 5, none⟩ = some (.int .i64 y.v) ∧ W.cell? ⟨Bx, 6, none⟩ = some (.int .i64 y.g)) (openRound lp) (only_out _) (by kernel_rfl) (by kernel_rfl) ⟨HB3.out.drew.cell rfl, HD3.out.drew.cell rfl, HE3.out.drew.cell rfl, HE3.out.drew.cell rfl, HE3.out.drew.cell rfl, HE3.out.drew.cell rfl, HE3.out.drew.cell rfl, HE3.out.drew.cell rfl, HE3.out.drew.cell rfl⟩ (fun hHeld => ?_))
   refine tzPGf 0 { dst := some 45, op := Op.load 98 (Operand.tmp 2), type := 98, pos := _, after := _, guard := none } (.pointer (some ⟨D, 0, none⟩)) ?_
   try simp only [Act.put, List.setIfInBounds_toArray, List.set_cons_zero, List.set_cons_succ]
   refine tzPGf 1 { dst := some 46, op := Op.load 98 (Operand.tmp 2), type := 98, pos := _, after := _, guard := none } (.pointer (some ⟨D, 0, none⟩)) ?_
   try simp only [Act.put, List.setIfInBounds_toArray, List.set_cons_zero, List.set_cons_succ]
   refine tzPGf 2 { dst := some 47, op := Op.nilCheck (Operand.tmp 46), type := 0, pos := _, after := _, guard := none } (.pointer (some ⟨D, 0, none⟩)) ?_
   try simp only [Act.put, List.setIfInBounds_toArray, List.set_cons_zero, List.set_cons_succ]
   refine tzPGf 3 { dst := some 48, op := Op.fieldAddr 157 (Operand.tmp 47) 5, type := 0, pos := _, after := _, guard := none } (.pointer (some ⟨D, 7, none⟩)) ?_
   try simp only [Act.put, List.setIfInBounds_toArray, List.set_cons_zero, List.set_cons_succ]
   refine tzPGf 4 { dst := some 49, op := Op.load 31 (Operand.tmp 48), type := 31, pos := _, after := _, guard := none } (.slice a5 l.length c5) ?_
   try simp only [Act.put, List.setIfInBounds_toArray, List.set_cons_zero, List.set_cons_succ]
   refine tzPGf 5 { dst := some 50, op := Op.load 55 (Operand.tmp 7), type := 55, pos := _, after := _, guard := none } (.agg #[.int .i64 y.t, .int .i64 y.s, .int .i64 y.q, .int .i64 y.d, .int .i64 y.k, .int .i64 y.v, .int .i64 y.g]) ?_
   try simp only [Act.put, List.setIfInBounds_toArray, List.set_cons_zero, List.set_cons_succ]
   refine wpAnyZ_ready (rs := [6]) (by kernel_rfl) (by simp) ?_
   refine AllReadyZ.cons (o := { dst := some 51, op := Op.buildSlice 31 1 #[(0, Operand.tmp 50)], type := 31, pos := _, after := _, guard := none }) rfl (fun K hK => ?_) AllReadyZ.nil
   obtain ⟨g1, hg1⟩ : ∃ g, g = W3.heap.size := ⟨_, rfl⟩
   obtain ⟨V1, hV1⟩ : ∃ V, (W3.alloc (.cells #[.int .i64 y.t, .int .i64 y.s, .int .i64 y.q, .int .i64 y.d, .int .i64 y.k, .int .i64 y.v, .int .i64 y.g] 55)).drew = V := ⟨_, rfl⟩
   have HV1 := hidPGf hV1
   have HG1 : Hid (g1 = W3.heap.size) := hg1
   have hbV : Below W3.heap.size W3 V1 := hV1 ▸ ((Below.refl _ W3).alloc (Nat.le_refl _) _).drew
   have HBV := hidPGf hbV
   have HB1 := hidPGf (HB3.out.below hbV)
   have HD1 := hidPGf (HD3.out.below hbV)
   have HE1 := hidPGf (HE3.out.below hbV)
   have HO1 := hidPGf (owns_turns (S := fun _ => False) HO3.out (Turns.of_below hbV) (fun _ _ => id))
   have HN1 : Hid (Bk V1 g1 55 #[.int .i64 y.t, .int .i64 y.s, .int .i64 y.q, .int .i64 y.d, .int .i64 y.k, .int .i64 y.v, .int .i64 y.g]) := by (rw [← hV1, hg1]; exact (Bk.new W3 _ _).drew)
   clear hV1 hg1 hbV
   go_simp
   rw [HV1.out, ← HG1.out]
   refine hK.out _ _ ⟨HB1.out.cell rfl, HD1.out.cell rfl, HE1.out.cell rfl, HE1.out.cell rfl, HE1.out.cell rfl, HE1.out.cell rfl, HE1.out.cell rfl, HE1.out.cell rfl, HE1.out.cell rfl⟩ (fun hHeld => ?_)
   clear hK K
   try simp only [Act.put, List.setIfInBounds_toArray, List.set_cons_zero, List.set_cons_succ]
   refine wpAnyZ_ready (rs := [7]) (by kernel_rfl) (by simp) ?_
   refine AllReadyZ.cons (o := { dst := some 52, op := Op.call { callee := Callee.builtin Builtin.append, args := #[Operand.tmp 49, Operand.tmp 51], argTypes := #[31, 31] }, type := 31, pos := _, after := _, guard := none }) rfl (fun K hK => ?_) AllReadyZ.nil
   refine step_append_src (w := V1) rfl (.tmp 49) (.tmp 51) 31 rfl B 55 ie (.agg #[.int .i64 0, .int .i64 0, .int .i64 0, .int .i64 0, .int .i64 0, .int .i64 0, .int .i64 0]) 7 56 Tryz.underlying31 hie hie0 hie1 hie2 rfl (by decide) (.slice a5 l.length c5) l.length (cellsL l) rfl HO1.out (.slice (some ⟨g1, 0, none⟩) 1 1) 1 y.cs rfl HN1.out.one (Ev.cs_one y) (by unfold maxLen; omega) (by omega) (Nat.le_trans hBV HBV.out.size) ?_
   intro vn w13 hown hgrow hnew
   obtain ⟨an, cn, hvn⟩ := owns_slice hown
   subst hvn
   have hgt := grown_turns hgrow
   have HB13 := hidPGf (HB1.out.turns hgt (owns_ne HO1.out HB1.out (by decide)))
   have HD13 := hidPGf (HD1.out.turns hgt (owns_ne HO1.out HD1.out (by decide)))
   have HE13 := hidPGf (HE1.out.turns hgt (HNE.out))
   have HO13 := hidPGf hown
   have HT13 := hidPGf hgt
   have HNR := hidPGf hnew
   clear hown hgrow hnew hgt
   refine hK.out _ _ ⟨HB13.out.cell rfl, HD13.out.cell rfl, HE13.out.cell rfl, HE13.out.cell rfl, HE13.out.cell rfl, HE13.out.cell rfl, HE13.out.cell rfl, HE13.out.cell rfl, HE13.out.cell rfl⟩ (fun hHeld => ?_)
   clear hK K
   try simp only [Act.put, List.setIfInBounds_toArray, List.set_cons_zero, List.set_cons_succ]
   refine wpAnyZ_take (i := 8) (oi := { dst := some 53, op := Op.nilCheck (Operand.tmp 45), type := 0, pos := _, after := _, guard := none }) (v := .pointer (some ⟨D, 0, none⟩)) 9 [8] rfl (by kernel_rfl) (by kernel_rfl) (by kernel_rfl) (by kernel_rfl) (by kernel_rfl) (fun _ _ _ h => h) (Or.inl ⟨by rfl, ?_⟩) (by assumption) ?_
   ·intro wX hSw
    try dsimp only at hSw
    go_simp
    try exact IntWalk.i64_in _ (by omega)
   try simp only [Act.put, List.setIfInBounds_toArray, List.set_cons_zero, List.set_cons_succ]
   refine tzPGf 9 { dst := some 54, op := Op.fieldAddr 157 (Operand.tmp 53) 5, type := 0, pos := _, after := _, guard := none } (.pointer (some ⟨D, 7, none⟩)) ?_
   try simp only [Act.put, List.setIfInBounds_toArray, List.set_cons_zero, List.set_cons_succ]
   refine wpAnyZ_ready (rs := [10]) (by kernel_rfl) (by simp) ?_
   refine AllReadyZ.last (o := { dst := none, op := Op.store 31 (Operand.tmp 54) (Operand.tmp 52), type := 0, pos := _, after := _, guard := none }) rfl (fun K hK => ?_)
   have q5 := HD13.out.cell (i := 7) rfl
   have qf := HD13.out.free
   obtain ⟨X5, hX5⟩ : ∃ X5, w13.setCell ⟨D, 7, none⟩ (.slice an (l.length + 1) cn) = X5 := ⟨_, rfl⟩
   have hP := HD13.out.put 7 (.slice an (l.length + 1) cn)
   have ht := put1_turns w13 D 7 (.slice an (l.length + 1) cn)
   rw [hX5] at hP ht
   have HX5 : Hid _ := hX5
   have HD5 := hidPGf hP
   have HT15 := hidPGf ht
   clear hX5 hP ht
   go_simp
   clear q5 qf
   rw [HX5.out]
   refine hK.out _ _ ?_
   clear hK K
   try simp only [Act.put, List.setIfInBounds_toArray, List.set_cons_zero, List.set_cons_succ]
   refine wpAnyZ_done (by kernel_rfl) ?_ _
   clear hHeld
   have hT5 : Turns (fun q => q = D ∨ (Value.slice a5 l.length c5).ownBlock = some q) W3 X5 := ((Turns.of_below HBV.out).trans (HT13.out.mono (fun k e1 => .inr e1))).trans (HT15.out.mono (fun k e1 => .inl e1))
   have hOx := ownR_snoc (owns_turns HO13.out HT15.out (fun k hk e1 => owns_ne HO13.out HD13.out (by decide) (e1 ▸ hk)))
   have hNR3 : NewRow W3 (.slice a5 l.length c5) (.slice an (l.length + 1) cn) := by
    rcases HNR.out with h9 | h9
    ·exact .inl h9
    ·exact .inr (fun k hk => by have := h9 k hk; have := HBV.out.size; omega)
   have hS : ∀ q, q < w8.heap.size → ¬ (q = D ∨ vu.ownBlock = some q) → ¬ (q = D ∨ (Value.slice a5 l.length c5).ownBlock = some q) := fun q hq hn e1 => by
    rcases e1 with e1 | e1
    ·exact hn (.inl e1)
    ·rcases HN3.out with h8 | h8
     ·exact hn (.inr (by rw [← h8]; exact e1))
     ·have := h8 q e1; omega
   have hz5 := hT5.size
   refine ⟨rfl, ?_⟩
   show KeepsFrom w8.heap.size W3 X5 ∧ Same2 w7.heap.size b W3 X5 ∧ GfJ B D va p k (.slice a7 (psAt p.p k).b.r.length c7) (.slice (some ⟨g, 0, none⟩) k c4) vt' vu K7 A4' w8 (pre ++ [x]) X5
   refine ⟨(keepsOthers_of_turns hT5 (fun q o hs ho => ?_)).from _, ⟨hT5.block _ (by omega) (hS _ (by omega) (fun e1 => e1.elim (by omega) (fun e1 => by have := owns_lt HD7.out.und e1; omega))), hT5.block b (by omega) (hS b hbl (fun e1 => e1.elim hbD hbu))⟩, .slice an (l.length + 1) cn, ?_, ?_, ⟨hT5.os.trans HT3.out.os, hT5.tape.trans HT3.out.tape, hT5.output.trans HT3.out.output, Nat.le_trans HT3.out.size hz5, fun q hq hn => (hT5.block q (by omega) (hS q hq hn)).trans (HT3.out.block q hq hn)⟩⟩
   ·rcases hs with e1 | e1
    ·subst e1; exact bk_cells HD33.out.blk ho
    ·exact row_cells HD33.out.und e1 ho
   ·rw [HL.out]
    exact HD33.out.more HD5.out hOx hNR3 hT5
   ·rcases hNR3 with h8 | h8
    ·rcases HN3.out with h7 | h7
     ·exact .inl (h8.trans h7)
     ·exact .inr (fun q e1 => h7 q (by rw [← h8]; exact e1))
    ·exact .inr (fun q e1 => by have h6 := h8 q e1; omega)
end Go.Proofs.YtnccenbkpocjgaaGreat
