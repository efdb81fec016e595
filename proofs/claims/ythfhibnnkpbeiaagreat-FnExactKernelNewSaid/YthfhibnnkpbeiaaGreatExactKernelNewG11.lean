/- PLib, PApp, PGrow, PPst, KMb -/
import Derived.Test.YthfhibnnkpbeiaaGreatExactKernelNewG02
import Derived.Test.YthfhibnnkpbeiaaGreatExactKernelNewG06
import Derived.Test.YthfhibnnkpbeiaaGreatExactKernelNewG01
import Derived.Test.YthfhibnnkpbeiaaGreatExactKernelNewG05
import Derived.Laws.OwnMore
import Derived.WalkSmall
import Derived.Test.YthfhibnnkpbeiaaGreatExactKernelNewG08
import Derived.Test.YthfhibnnkpbeiaaGreatExactKernelNewLTPsE
import Derived.Test.YthfhibnnkpbeiaaGreatExactKernelNewLTPsF
import Derived.Test.YthfhibnnkpbeiaaGreatExactKernelNewG07
import Derived.Deep.Cut
import Derived.Deep.CutBlock
import Derived.Deep.RegionHeld3
import Derived.ArgAppend
/- General lemmas: what is owned, what is put, appends. -/
namespace Go.Proofs.YthfhibnnkpbeiaaGreat
open Go.RowKit
theorem Turns.grown {S : Nat → Prop} {a w w' : World} {row : Option Nat} (h : Turns S a w) (hg : w.grownBy w' row) (hr : ∀ k, row = some k → S k) : Turns S a w' :=
 h.trans ⟨hg.os, hg.tape, hg.output, hg.size, fun k hk hn => hg.block k hk (fun e => hn (hr k e.symm))⟩
def NewRow (w : World) (v v' : Value) : Prop := v'.ownBlock = v.ownBlock ∨ ∀ k, v'.ownBlock = some k → w.heap.size ≤ k
theorem run_append_own2 {P : Program} (w : World) (base : Nat) (t ty e : TypeId) (i : TypeInfo) (z : Value) (size bytes : Nat) (ht : P.underlying t = some (.slice e)) (hi : P.info? e = some i) (hz : i.zero = some z) (hsize : i.size = size) (hby : i.bytes = bytes) (hzs : z.cells.size = size) (hsz : 0 < size)
  (v : Value) (n : Nat) (xs : List Value) (hown : w.ownsRow base e size v n xs) (ad : Addr) (m c : Nat) (news : List Value) (hl : news.length = m * size) (hnews : ∀ j u, news[j]? = some u → w.cell? (ad.add j) = some u) (h1 : ∀ u ∈ news, u.oneCell' = true)
  (h63 : n + m ≤ maxLen) (hbytes : (n + m) * bytes ≤ 140737488355328) (hbase : base ≤ w.heap.size) :
  ∃ v' w', (Builtin.append_ #[t, t] ty #[v, .slice (some ad) m c]).run P w = .ok v' w' ∧ w'.ownsRow base e size v' (n + m) (xs ++ news) ∧ w.grownBy w' v.ownBlock ∧ NewRow w v v' := by
 obtain ⟨v', w', hr, h2, h3, _⟩ := run_append_own (P := P) w base t ty e i z size bytes ht hi hz hsize hby hzs hsz v n xs hown ad m c news hl hnews h1 h63 hbytes hbase
 refine ⟨v', w', hr, h2, h3, ?_⟩
 have hown' := hown
 obtain ⟨_, ⟨rfl, h0⟩ | ⟨g, cap, cur, rfl, hg, hc, hnc, hcm, hcs, htk⟩⟩ := hown
 ·right
  obtain ⟨v2, w2, hr2, r1, _⟩ := run_append_own (P := P) w w.heap.size t ty e i z size bytes ht hi hz hsize hby hzs hsz (.slice none 0 0) n xs ⟨hown'.1, .inl ⟨rfl, h0⟩⟩ ad m c news hl hnews h1 h63 hbytes (Nat.le_refl _)
  rw [hr] at hr2
  cases hr2
  exact fun k e => (World.ownsRow.lt r1 k e).1
 ·by_cases hroom : n + m ≤ cap
  ·left
   obtain ⟨w2, hr2, _⟩ := run_append_fits (P := P) w base t ty e i size ht hi hsize g n cap xs hown' ad m c news hl hnews h1 hroom
   rw [hr] at hr2
   cases hr2
   rfl
  ·right
   obtain ⟨v2, w2, hr2, r1, _⟩ := run_append_arg_grows (P := P) w t ty e i z size bytes ht hi hz hsize hby hzs hsz ⟨g, 0, none⟩ n cap xs hown'.1 (World.ownsRow.cells hown' rfl) ad m c news hl hnews (by omega) h63 hbytes
   rw [hr] at hr2
   cases hr2
   exact fun k e => (World.ownsRow.lt r1 k e).1
theorem step_append_own2 {P : Program} {ops : Array Oper} {o : Oper} {a : Act} {w : World} {K : Act → World → Prop} {Q : Exit → Act → World → Prop} {E : Prop}
  (hg : o.guard = none) (s x : Operand) (t : TypeId) (hop : o.op = Op.call { callee := Callee.builtin Builtin.append, args := #[s, x], argTypes := #[t, t] })
  (base : Nat) (e : TypeId) (i : TypeInfo) (z : Value) (size bytes : Nat) (h1 : P.underlying t = some (.slice e)) (h2 : P.info? e = some i) (h3 : i.zero = some z) (h4 : i.size = size) (h5 : i.bytes = bytes) (h6 : z.cells.size = size) (h7 : 0 < size)
  (v : Value) (n : Nat) (xs : List Value) (hs : a.eval s = v) (hown : w.ownsRow base e size v n xs)
  (ad : Addr) (m c : Nat) (news : List Value) (hx : a.eval x = .slice (some ad) m c) (hn : news.length = m * size) (hc : ∀ j u, news[j]? = some u → w.cell? (ad.add j) = some u) (h1c : ∀ u ∈ news, u.oneCell' = true)
  (b1 : n + m ≤ maxLen) (b2 : (n + m) * bytes ≤ 140737488355328) (hbase : base ≤ w.heap.size)
  (hK : ∀ v' w', w'.ownsRow base e size v' (n + m) (xs ++ news) → w.grownBy w' v.ownBlock → NewRow w v v' → K (a.put o.dst v') w') :
  if Region.wanted o (yielded ops a.tmps) = true then Oper.wp P o a w K Q else E := by
 have hw : Region.wanted o (yielded ops a.tmps) = true := by simp [Region.wanted, hg]
 rw [if_pos hw]
 obtain ⟨v', w', hr, q1, q2, q3⟩ := run_append_own2 (P := P) w base t o.type e i z size bytes h1 h2 h3 h4 h5 h6 h7 v n xs hown ad m c news hn hc h1c b1 b2 hbase
 unfold Oper.wp execOp
 simp only [hop, resolve, invoke, builtin, Sem.run_bind, Sem.run_pure, Result.andThen_ok, List.map_toArray, List.map_cons, List.map_nil, hs, hx, hr]
 exact hK v' w' q1 q2 q3
theorem own_rowF {B : Nat} {T : TypeId} {w : World} {x : Value} {n c : Nat} {cs : List Value} (hcs : cs.length = n * c) (h : w.ownsRow B T c x n cs) : RowF (fun k => x.ownBlock = some k) w x n c cs := by
 obtain ⟨hl, ⟨rfl, h0⟩ | ⟨g, cap, cur, rfl, hg, hc, h1, h2, h3, h4⟩⟩ := h
 ·exact ⟨hcs, none, 0, by rw [h0], by omega, by unfold maxLen; omega, .inl h0⟩
 ·have hlt : g < w.heap.size := (Array.getElem?_eq_some_iff.1 hc).1
  refine ⟨hcs, _, cap, rfl, h1, h2, .inr ⟨g, rfl, rfl, hlt, fun j hj => ?_⟩⟩
  have hj2 : j < cur.size := by rw [h3]; exact Nat.lt_of_lt_of_le hj (Nat.mul_le_mul_right c h1)
  refine ⟨?_, by simp [World.frozen?, hc]⟩
  rw [← h4, List.getElem?_take_of_lt (by omega)]
  simp [World.cell?, hc]
theorem owns_same {w w' : World} {B : Nat} {v : Value} {T : TypeId} {c n : Nat} {cs : List Value} (h : w.ownsRow B T c v n cs) (hb : ∀ k, v.ownBlock = some k → w'.heap[k]? = w.heap[k]?) : w'.ownsRow B T c v n cs := by
 obtain ⟨h0, ⟨e, h1⟩ | ⟨g, cap, cur, rfl, hg, hc, h1⟩⟩ := h
 ·exact ⟨h0, .inl ⟨e, h1⟩⟩
 ·exact ⟨h0, .inr ⟨g, cap, cur, rfl, hg, (hb g rfl).trans hc, h1⟩⟩
theorem owns_turns {S : Nat → Prop} {w w' : World} {B : Nat} {v : Value} {T : TypeId} {c n : Nat} {cs : List Value} (h : w.ownsRow B T c v n cs) (ht : Turns S w w') (hS : ∀ k, v.ownBlock = some k → ¬ S k) : w'.ownsRow B T c v n cs :=
 owns_same h fun k hk => ht.block k (World.ownsRow.lt h k hk).2 (hS k hk)
theorem rowI_empty (w : World) : (w.alloc (.cells #[] 3)).ownsRow w.heap.size 3 1 (.slice (some ⟨w.heap.size, 0, none⟩) 0 0) 0 [] :=
 ⟨rfl, .inr ⟨w.heap.size, 0, #[], rfl, Nat.le_refl _, (MapKept.heap_alloc w _).1, Nat.le_refl _, Nat.zero_le _, rfl, rfl⟩⟩
theorem Turns.belowT {S : Nat → Prop} {a b c : World} (h : Turns S a b) (k : Below a.heap.size b c) : Turns S a c :=
 ⟨k.os.trans h.os, k.tape.trans h.tape, k.output.trans h.output, Nat.le_trans h.size k.size, fun i hi hS => (k.block i hi).trans (h.block i hi hS)⟩
theorem grown_turns {w w' : World} {row : Option Nat} (h : w.grownBy w' row) : Turns (fun k => row = some k) w w' := ⟨h.os, h.tape, h.output, h.size, fun k hk hS => h.block k hk (fun e => hS e.symm)⟩
theorem owns_ne {B : Nat} {e : TypeId} {size n : Nat} {w : World} {v : Value} {xs : List Value} (h : w.ownsRow B e size v n xs) {P : Nat} {T : TypeId} {vs : Array Value} (hb : Bk w P T vs) (hT : T ≠ e) : ¬ v.ownBlock = some P := by
 intro hE
 obtain ⟨_, ⟨rfl, _⟩ | ⟨g, cap, cur, rfl, _, hc, _⟩⟩ := h
 ·simp [Value.ownBlock] at hE
 ·simp [Value.ownBlock] at hE
  subst hE
  have hb' : w.heap[g]? = some (.cells vs T) := hb
  rw [hb'] at hc
  simp at hc
  exact hT hc.2
theorem owns_lt {B : Nat} {e : TypeId} {size n : Nat} {w : World} {v : Value} {xs : List Value} (h : w.ownsRow B e size v n xs) {k : Nat} (hk : v.ownBlock = some k) : k < w.heap.size := by
 obtain ⟨_, ⟨rfl, _⟩ | ⟨g, cap, cur, rfl, _, hc, _⟩⟩ := h
 ·simp [Value.ownBlock] at hk
 ·simp [Value.ownBlock] at hk
  subst hk
  exact (Array.getElem?_eq_some_iff.1 hc).1
theorem Turns.grownNew {S : Nat → Prop} {a w w' : World} {row : Option Nat} (h : Turns S a w) (hg : w.grownBy w' row) (hr : ∀ k, row = some k → a.heap.size ≤ k) : Turns S a w' :=
 ⟨hg.os.trans h.os, hg.tape.trans h.tape, hg.output.trans h.output, Nat.le_trans h.size hg.size, fun k hk hS => (hg.block k (Nat.lt_of_lt_of_le hk h.size) (fun e => by have := hr k e.symm; omega)).trans (h.block k hk hS)⟩
theorem owns_mono {B B' : Nat} {e : TypeId} {size n : Nat} {w : World} {v : Value} {xs : List Value} (h : w.ownsRow B e size v n xs) (hB : B' ≤ B) : w.ownsRow B' e size v n xs := by
 obtain ⟨h0, h1 | ⟨g, cap, cur, e, hg, h2⟩⟩ := h
 ·exact ⟨h0, .inl h1⟩
 ·exact ⟨h0, .inr ⟨g, cap, cur, e, Nat.le_trans hB hg, h2⟩⟩
theorem intCells_ones (l : List Int) : ∀ u ∈ intCells l, u.oneCell' = true := by
 intro u hu
 obtain ⟨z, _, rfl⟩ := List.mem_map.1 hu
 rfl
theorem owns_slice {B : Nat} {e : TypeId} {size n : Nat} {w : World} {v : Value} {xs : List Value} (h : w.ownsRow B e size v n xs) : ∃ a cap, v = .slice a n cap := by
 obtain ⟨_, ⟨rfl, h0⟩ | ⟨g, cap, cur, rfl, _⟩⟩ := h
 ·exact ⟨none, 0, by rw [h0]⟩
 ·exact ⟨_, _, rfl⟩
theorem owns_apart {B B' : Nat} {e e' : TypeId} {size n size' n' : Nat} {w : World} {v v' : Value} {xs xs' : List Value} (h : w.ownsRow B e size v n xs) (h' : w.ownsRow B' e' size' v' n' xs') (he : e ≠ e') {k : Nat} (hk : v.ownBlock = some k) : ¬ v'.ownBlock = some k := by
 intro hk'
 obtain ⟨_, ⟨rfl, _⟩ | ⟨g, cap, cur, rfl, _, hc, _⟩⟩ := h
 ·simp [Value.ownBlock] at hk
 ·obtain ⟨_, ⟨rfl, _⟩ | ⟨g', cap', cur', rfl, _, hc', _⟩⟩ := h'
  ·simp [Value.ownBlock] at hk'
  ·simp [Value.ownBlock] at hk hk'
   subst hk hk'
   rw [hc] at hc'
   simp at hc'
   exact he hc'.2
theorem wpList_append_own2 {P : Program} {ops : Array Oper} {rest : List Oper} {o : Oper} {a : Act} {Q : Exit → Act → World → Prop} (w : World) (hgd : o.guard = none) (s x : Operand) (t : TypeId)
  (ho : o.op = .call { callee := .builtin .append, args := #[s, x], argTypes := #[t, t] })
  (base : Nat) (e : TypeId) (i : TypeInfo) (z : Value) (size bytes : Nat) (ht : P.underlying t = some (.slice e)) (hi : P.info? e = some i) (hz : i.zero = some z)
  (hsize : i.size = size) (hby : i.bytes = bytes) (hzs : z.cells.size = size) (hsz : 0 < size)
  (v : Value) (n : Nat) (xs : List Value) (hs : a.eval s = v) (hown : w.ownsRow base e size v n xs)
  (ad : Addr) (m c : Nat) (news : List Value) (hx : a.eval x = .slice (some ad) m c) (hl : news.length = m * size) (hnews : ∀ j u, news[j]? = some u → w.cell? (ad.add j) = some u) (h1 : ∀ u ∈ news, u.oneCell' = true)
  (h63 : n + m ≤ maxLen) (hbytes : (n + m) * bytes ≤ 140737488355328) (hbase : base ≤ w.heap.size)
  (h : ∀ v' w', w'.ownsRow base e size v' (n + m) (xs ++ news) → w.grownBy w' v.ownBlock → NewRow w v v' → wpList P ops Q rest (a.put o.dst v') w') : wpList P ops Q (o :: rest) a w :=
 wpList_plain hgd fun _ hK => by
  obtain ⟨v', w', hr, q1, q2, q3⟩ := run_append_own2 (P := P) w base t o.type e i z size bytes ht hi hz hsize hby hzs hsz v n xs hown ad m c news hl hnews h1 h63 hbytes hbase
  unfold Oper.wp execOp
  simp only [ho, resolve, invoke, builtin, Sem.run_bind, Sem.run_pure, Result.andThen_ok, List.map_toArray, List.map_cons, List.map_nil, hs, hx, hr]
  exact hK _ _ (h v' w' q1 q2 q3)
abbrev put3s (w : World) (P : Nat) (v0 v1 v2 : Value) : World := ((w.setCell ⟨P, 0, none⟩ v0).setCell ⟨P, 1, none⟩ v1).setCell ⟨P, 2, none⟩ v2
theorem put3s_turns (w : World) (P : Nat) (v0 v1 v2 : Value) : Turns (fun b => b = P) w (put3s w P v0 v1 v2) :=
 ((put1_turns w P 0 v0).trans (put1_turns _ P 1 v1)).trans (put1_turns _ P 2 v2)
theorem Bk.put3s {w : World} {P : Nat} {T : TypeId} {a0 a1 a2 : Value} (h : Bk w P T #[a0, a1, a2]) (v0 v1 v2 : Value) : Bk (put3s w P v0 v1 v2) P T #[v0, v1, v2] :=
 ((h.put 0 v0).put 1 v1).put 2 v2
abbrev put7s (w : World) (P : Nat) (v0 v1 v2 v3 v4 v5 v6 : Value) : World := ((((((w.setCell ⟨P, 0, none⟩ v0).setCell ⟨P, 1, none⟩ v1).setCell ⟨P, 2, none⟩ v2).setCell ⟨P, 3, none⟩ v3).setCell ⟨P, 4, none⟩ v4).setCell ⟨P, 5, none⟩ v5).setCell ⟨P, 6, none⟩ v6
theorem put7s_turns (w : World) (P : Nat) (v0 v1 v2 v3 v4 v5 v6 : Value) : Turns (fun b => b = P) w (put7s w P v0 v1 v2 v3 v4 v5 v6) :=
 ((((((put1_turns w P 0 v0).trans (put1_turns _ P 1 v1)).trans (put1_turns _ P 2 v2)).trans (put1_turns _ P 3 v3)).trans (put1_turns _ P 4 v4)).trans (put1_turns _ P 5 v5)).trans (put1_turns _ P 6 v6)
theorem Bk.put7s {w : World} {P : Nat} {T : TypeId} {a0 a1 a2 a3 a4 a5 a6 : Value} (h : Bk w P T #[a0, a1, a2, a3, a4, a5, a6]) (v0 v1 v2 v3 v4 v5 v6 : Value) : Bk (put7s w P v0 v1 v2 v3 v4 v5 v6) P T #[v0, v1, v2, v3, v4, v5, v6] := by
 have h0 : Bk (w.setCell ⟨P, 0, none⟩ v0) P T #[v0, a1, a2, a3, a4, a5, a6] := h.put 0 v0
 have h1 : Bk ((w.setCell ⟨P, 0, none⟩ v0).setCell ⟨P, 1, none⟩ v1) P T #[v0, v1, a2, a3, a4, a5, a6] := h0.put 1 v1
 have h2 : Bk (((w.setCell ⟨P, 0, none⟩ v0).setCell ⟨P, 1, none⟩ v1).setCell ⟨P, 2, none⟩ v2) P T #[v0, v1, v2, a3, a4, a5, a6] := h1.put 2 v2
 have h3 : Bk ((((w.setCell ⟨P, 0, none⟩ v0).setCell ⟨P, 1, none⟩ v1).setCell ⟨P, 2, none⟩ v2).setCell ⟨P, 3, none⟩ v3) P T #[v0, v1, v2, v3, a4, a5, a6] := h2.put 3 v3
 have h4 : Bk (((((w.setCell ⟨P, 0, none⟩ v0).setCell ⟨P, 1, none⟩ v1).setCell ⟨P, 2, none⟩ v2).setCell ⟨P, 3, none⟩ v3).setCell ⟨P, 4, none⟩ v4) P T #[v0, v1, v2, v3, v4, a5, a6] := h3.put 4 v4
 have h5 : Bk ((((((w.setCell ⟨P, 0, none⟩ v0).setCell ⟨P, 1, none⟩ v1).setCell ⟨P, 2, none⟩ v2).setCell ⟨P, 3, none⟩ v3).setCell ⟨P, 4, none⟩ v4).setCell ⟨P, 5, none⟩ v5) P T #[v0, v1, v2, v3, v4, v5, a6] := h4.put 5 v5
 have h6 : Bk (((((((w.setCell ⟨P, 0, none⟩ v0).setCell ⟨P, 1, none⟩ v1).setCell ⟨P, 2, none⟩ v2).setCell ⟨P, 3, none⟩ v3).setCell ⟨P, 4, none⟩ v4).setCell ⟨P, 5, none⟩ v5).setCell ⟨P, 6, none⟩ v6) P T #[v0, v1, v2, v3, v4, v5, v6] := h5.put 6 v6
 exact h6
theorem Turns.sub {S S' : Nat → Prop} {w w' : World} (h : Turns S w w') (hS : ∀ k, S k → S' k) : Turns S' w w' := ⟨h.os, h.tape, h.output, h.size, fun k hk hn => h.block k hk (fun e => hn (hS k e))⟩
end Go.Proofs.YthfhibnnkpbeiaaGreat

/- Append of a source that may be empty, or nil. -/
namespace Go.Proofs.YthfhibnnkpbeiaaGreat
open Go.RowKit
def SrcC (w : World) (x : Value) (size m : Nat) (news : List Value) : Prop := news.length = m * size ∧ ∃ a c, x = .slice a m c ∧ (m = 0 ∨ ∃ b off, a = some ⟨b, off, none⟩ ∧ b < w.heap.size ∧ ∀ j, j < m * size → w.cell? ⟨b, off + j, none⟩ = news[j]?)
theorem SrcC.below {w w' : World} {x : Value} {size m : Nat} {news : List Value} (h : SrcC w x size m news) (hb : Below w.heap.size w w') : SrcC w' x size m news := by
 obtain ⟨hn, a, c, rfl, h⟩ := h
 refine ⟨hn, a, c, rfl, h.imp id ?_⟩
 rintro ⟨b, off, rfl, hlt, hc⟩
 exact ⟨b, off, rfl, Nat.lt_of_lt_of_le hlt hb.size, fun j hj => (hb.cell (p := ⟨b, off + j, none⟩) hlt).trans (hc j hj)⟩
theorem IsD.src {w : World} {x : Value} {c n : Nat} {cs : List Value} (h : IsD w x (flat c n cs)) (hl : cs.length = n * c) : SrcC w x c n cs := by
 obtain ⟨a, cap, rfl, h1, h2, h⟩ := IsD.parts (c := c) (n := n) h
 refine ⟨hl, a, cap, rfl, h.imp id ?_⟩
 rintro ⟨b, off, rfl, hlt, hc⟩
 refine ⟨b, off, rfl, hlt, fun j hj => ?_⟩
 obtain ⟨u, hu, hd⟩ := hc j hj
 have := IsD.val_eq hd
 subst this
 rw [hu, List.getElem?_eq_getElem (by omega)]
 simp [show j < cs.length by omega]
theorem IsD.srcI {w : World} {x : Value} {l : List Int} (h : IsD w x (intsD l)) : SrcC w x 1 l.length (intCells l) := IsD.src h (by rw [intCells_length]; omega)
theorem IsD.srcEv {w : World} {x : Value} {l : List Ev} (h : IsD w x (evsD l)) : SrcC w x 7 l.length (cellsL l) := IsD.src h (cellsL_length l)
theorem IsD.srcX {w : World} {x : Value} {l : List Em} (h : IsD w x (emsD l)) : SrcC w x 3 l.length (cellsX l) := IsD.src h (cellsX_length l)
theorem run_append_none_any {P : Program} {w : World} (base : Nat) (t ty e : TypeId) (i : TypeInfo) (size : Nat) (ht : P.underlying t = some (.slice e)) (hi : P.info? e = some i) (v : Value) (n c : Nat) (xs : List Value) (hown : w.ownsRow base e size v n xs) :
  (Builtin.append_ #[t, t] ty #[v, .slice none 0 c]).run P w = .ok v w := by
 rcases hown.2 with ⟨rfl, rfl⟩ | ⟨g, cap, cur, rfl, _, _, hnc, _⟩
 ·simp [Builtin.append_, run_underlying ht, sizeOf, typeInfo, hi, Builtin.lenOf, Builtin.firstCells]
 ·simp [Builtin.append_, run_underlying ht, sizeOf, typeInfo, hi, Builtin.lenOf, Builtin.firstCells, hnc, storeCells]
theorem step_append_src {P : Program} {ops : Array Oper} {o : Oper} {a : Act} {w : World} {K : Act → World → Prop} {Q : Exit → Act → World → Prop} {E : Prop}
  (hg : o.guard = none) (s x : Operand) (t : TypeId) (hop : o.op = Op.call { callee := Callee.builtin Builtin.append, args := #[s, x], argTypes := #[t, t] })
  (base : Nat) (e : TypeId) (i : TypeInfo) (z : Value) (size bytes : Nat) (h1 : P.underlying t = some (.slice e)) (h2 : P.info? e = some i) (h3 : i.zero = some z) (h4 : i.size = size) (h5 : i.bytes = bytes) (h6 : z.cells.size = size) (h7 : 0 < size)
  (v : Value) (n : Nat) (xs : List Value) (hs : a.eval s = v) (hown : w.ownsRow base e size v n xs)
  (u : Value) (m : Nat) (news : List Value) (hx : a.eval x = u) (hc : SrcC w u size m news) (h1c : ∀ u ∈ news, u.oneCell' = true)
  (b1 : n + m ≤ maxLen) (b2 : (n + m) * bytes ≤ 140737488355328) (hbase : base ≤ w.heap.size)
  (hK : ∀ v' w', w'.ownsRow base e size v' (n + m) (xs ++ news) → w.grownBy w' v.ownBlock → NewRow w v v' → K (a.put o.dst v') w') :
  if Region.wanted o (yielded ops a.tmps) = true then Oper.wp P o a w K Q else E := by
 obtain ⟨hn, au, c, rfl, hc⟩ := hc
 have some_case : ∀ ad : Addr, au = some ad → (∀ j u, news[j]? = some u → w.cell? (ad.add j) = some u) → (if Region.wanted o (yielded ops a.tmps) = true then Oper.wp P o a w K Q else E) := fun ad e1 e2 => by
  subst e1
  exact step_append_own2 hg s x t hop base e i z size bytes h1 h2 h3 h4 h5 h6 h7 v n xs hs hown ad m c news hx hn e2 h1c b1 b2 hbase hK
 rcases hc with rfl | ⟨b, off, rfl, hlt, hcc⟩
 ·have hnil : news = [] := List.eq_nil_of_length_eq_zero (by simpa using hn)
  subst hnil
  cases au with
  | some ad => exact some_case ad rfl (fun j u hu => by simp at hu)
  | none =>
   have hw : Region.wanted o (yielded ops a.tmps) = true := by simp [Region.wanted, hg]
   rw [if_pos hw]
   have hr := run_append_none_any (P := P) (w := w) base t o.type e i size h1 h2 v n c xs hown
   unfold Oper.wp execOp
   simp only [hop, resolve, invoke, builtin, Sem.run_bind, Sem.run_pure, Result.andThen_ok, List.map_toArray, List.map_cons, List.map_nil, hs, hx, hr]
   exact hK v w (by simpa using hown) (grown_refl w _) (.inl rfl)
 ·refine some_case ⟨b, off, none⟩ rfl (fun j u hu => ?_)
  have hj : j < m * size := by rw [← hn]; exact (List.getElem?_eq_some_iff.1 hu).1
  rw [Addr.add_lit, hcc j hj]
  exact hu
theorem wpList_append_src {P : Program} {ops : Array Oper} {rest : List Oper} {o : Oper} {a : Act} {Q : Exit → Act → World → Prop} (w : World) (hgd : o.guard = none) (s x : Operand) (t : TypeId)
  (ho : o.op = .call { callee := .builtin .append, args := #[s, x], argTypes := #[t, t] })
  (base : Nat) (e : TypeId) (i : TypeInfo) (z : Value) (size bytes : Nat) (ht : P.underlying t = some (.slice e)) (hi : P.info? e = some i) (hz : i.zero = some z)
  (hsize : i.size = size) (hby : i.bytes = bytes) (hzs : z.cells.size = size) (hsz : 0 < size)
  (v : Value) (n : Nat) (xs : List Value) (hs : a.eval s = v) (hown : w.ownsRow base e size v n xs)
  (u : Value) (m : Nat) (news : List Value) (hx : a.eval x = u) (hc : SrcC w u size m news) (h1 : ∀ u ∈ news, u.oneCell' = true)
  (h63 : n + m ≤ maxLen) (hbytes : (n + m) * bytes ≤ 140737488355328) (hbase : base ≤ w.heap.size)
  (h : ∀ v' w', w'.ownsRow base e size v' (n + m) (xs ++ news) → w.grownBy w' v.ownBlock → NewRow w v v' → wpList P ops Q rest (a.put o.dst v') w') : wpList P ops Q (o :: rest) a w := by
 obtain ⟨hn, au, c, rfl, hc⟩ := hc
 have some_case : ∀ ad : Addr, au = some ad → (∀ j u, news[j]? = some u → w.cell? (ad.add j) = some u) → wpList P ops Q (o :: rest) a w := fun ad e1 e2 => by
  subst e1
  exact wpList_append_own2 w hgd s x t ho base e i z size bytes ht hi hz hsize hby hzs hsz v n xs hs hown ad m c news hx hn e2 h1 h63 hbytes hbase h
 rcases hc with rfl | ⟨b, off, rfl, hlt, hcc⟩
 ·have hnil : news = [] := List.eq_nil_of_length_eq_zero (by simpa using hn)
  subst hnil
  cases au with
  | some ad => exact some_case ad rfl (fun j u hu => by simp at hu)
  | none =>
   refine wpList_plain hgd fun _ hK => ?_
   have hr := run_append_none_any (P := P) (w := w) base t o.type e i size ht hi v n c xs hown
   unfold Oper.wp execOp
   simp only [ho, resolve, invoke, builtin, Sem.run_bind, Sem.run_pure, Result.andThen_ok, List.map_toArray, List.map_cons, List.map_nil, hs, hx, hr]
   exact hK _ _ (h v w (by simpa using hown) (grown_refl w _) (.inl rfl))
 ·refine some_case ⟨b, off, none⟩ rfl (fun j u hu => ?_)
  have hj : j < m * size := by rw [← hn]; exact (List.getElem?_eq_some_iff.1 hu).1
  rw [Addr.add_lit, hcc j hj]
  exact hu
theorem cellsL_ones (l : List Ev) : ∀ u ∈ cellsL l, u.oneCell' = true := fun u hu => by obtain ⟨i, rfl⟩ := evs_plain l u hu; rfl
theorem cellsX_ones (l : List Em) : ∀ u ∈ cellsX l, u.oneCell' = true := fun u hu => by obtain ⟨i, rfl⟩ := ems_plain l u hu; rfl
set_option maxRecDepth 100000 in
set_option maxHeartbeats 2000000 in
theorem l1own_src (x : Value) (l : List Ev) (w : World) (hl : l.length ≤ 1048577) (h : SrcC w x 7 l.length (cellsL l)) :
  Calls Tryz.prog 66 #[x] w fun e w' => ∃ y, e = .returned y ∧ w'.ownsRow w.heap.size 99 7 y l.length (cellsL l) ∧ Below w.heap.size w w' := by
 obtain ⟨i0, hi, hz0, hz1, hz2⟩ := info_parts info25
 have hb : Below w.heap.size w (w.alloc (.cells #[] 99)) := (Below.refl _ w).alloc (Nat.le_refl _) _
 have HS : Hid (SrcC (w.alloc (.cells #[] 99)) x 7 l.length (cellsL l)) := h.below hb
 have HB : Hid (Below w.heap.size w (w.alloc (.cells #[] 99))) := hb
 obtain ⟨_, a, c, rfl, _⟩ := h
 clear hb
 go_enter Tryz.func66, Tryz.ntmps66
 go_wp2_with (at_builtin; refine wpList_append_src _ rfl _ _ 29 rfl w.heap.size 99 i0 _ 7 56 Tryz.underlying29 hi hz0 hz1 hz2 rfl (by decide) (.slice (some ⟨w.heap.size, 0, none⟩) 0 0) 0 [] rfl (row_empty w) (.slice a l.length c) l.length (cellsL l) rfl HS.out (cellsL_ones l) (by unfold maxLen; omega) (by omega) (by simp) ?_; intro v' w' hown hgrow hnew)
 go_ret
 rw [Nat.zero_add, List.nil_append] at hown
 exact ⟨_, rfl, hown, HB.out.grown hgrow (by simp) (fun k e => by cases e; exact Nat.le_refl _)⟩
end Go.Proofs.YthfhibnnkpbeiaaGreat

/- A row that grows, whose cells own what they hold. -/
namespace Go.Proofs.YthfhibnnkpbeiaaGreat
open Go.RowKit
def nthV (cs : List Value) (j : Nat) : Value := cs.getD j (.int .i64 0)
structure GrowD (B : Nat) (T : TypeId) (w : World) (v : Value) (c n : Nat) (cs : List Value) (f : Nat → Dat) (G : Nat → Nat → Prop) : Prop where
 row : w.ownsRow B T c v n cs
 own : ∀ j, j < n * c → OwnD w (G j) (nthV cs j) (f j)
 lim : ∀ j, j < n * c → ∀ k, G j k → B ≤ k ∧ k < w.heap.size ∧ v.ownBlock ≠ some k
 dis : ∀ i j, i < n * c → j < n * c → i ≠ j → ∀ k, G i k → ¬ G j k
theorem GrowD.nil (B : Nat) (T : TypeId) (w : World) (c : Nat) (f : Nat → Dat) (G : Nat → Nat → Prop) : GrowD B T w (.slice none 0 0) c 0 [] f G :=
 ⟨World.ownsRow_nil w B T c, fun j hj => by omega, fun j hj => by omega, fun i j hi => by omega⟩
theorem GrowD.turns {S : Nat → Prop} {B : Nat} {T : TypeId} {w w' : World} {v : Value} {c n : Nat} {cs : List Value} {f : Nat → Dat} {G : Nat → Nat → Prop} (h : GrowD B T w v c n cs f G) (ht : Turns S w w') (h1 : ∀ k, v.ownBlock = some k → ¬ S k) (h2 : ∀ j, j < n * c → ∀ k, G j k → ¬ S k) : GrowD B T w' v c n cs f G :=
 ⟨owns_turns h.row ht h1, fun j hj => (h.own j hj).turns ht (h2 j hj), fun j hj k hk => ⟨(h.lim j hj k hk).1, Nat.lt_of_lt_of_le (h.lim j hj k hk).2.1 ht.size, (h.lim j hj k hk).2.2⟩, h.dis⟩
theorem GrowD.below {B : Nat} {T : TypeId} {w w' : World} {v : Value} {c n : Nat} {cs : List Value} {f : Nat → Dat} {G : Nat → Nat → Prop} (h : GrowD B T w v c n cs f G) (hb : Below w.heap.size w w') : GrowD B T w' v c n cs f G :=
 h.turns (S := fun _ => False) (Turns.of_below hb) (fun _ _ => id) (fun _ _ _ _ => id)
theorem GrowD.low {S : Nat → Prop} {B : Nat} {T : TypeId} {w w' : World} {v : Value} {c n : Nat} {cs : List Value} {f : Nat → Dat} {G : Nat → Nat → Prop} (h : GrowD B T w v c n cs f G) (ht : Turns S w w') (hS : ∀ k, B ≤ k → ¬ S k) : GrowD B T w' v c n cs f G :=
 h.turns ht (fun k hk => hS k (row_ge h.row hk)) (fun j hj k hk => hS k (h.lim j hj k hk).1)
def joinF {α : Type} (m : Nat) (f g : Nat → α) : Nat → α := fun j => if j < m then f j else g (j - m)
theorem GrowD.snoc {B : Nat} {T : TypeId} {w w3 : World} {v v3 : Value} {c n : Nat} {cs ns : List Value} {f d : Nat → Dat} {G K : Nat → Nat → Prop} (h : GrowD B T w v c n cs f G) (ho : w3.ownsRow B T c v3 (n + 1) (cs ++ ns)) (hg : w.grownBy w3 v.ownBlock) (hw : NewRow w v v3)
  (hd : ∀ r, r < c → OwnD w (K r) (nthV ns r) (d r)) (hK : ∀ r, r < c → ∀ k, K r k → B ≤ k ∧ k < w.heap.size ∧ v.ownBlock ≠ some k ∧ ∀ j, j < n * c → ¬ G j k) (hKK : ∀ i j, i < c → j < c → i ≠ j → ∀ k, K i k → ¬ K j k) :
  GrowD B T w3 v3 c (n + 1) (cs ++ ns) (joinF (n * c) f d) (joinF (n * c) G K) := by
 have hl : cs.length = n * c := h.row.1
 have ht := grown_turns hg
 have hsz : w.heap.size ≤ w3.heap.size := hg.size
 have hv3 : ∀ k, k < w.heap.size → v.ownBlock ≠ some k → v3.ownBlock ≠ some k := fun k hk hv e => by
  rcases hw with h1 | h1
  ·exact hv (h1 ▸ e)
  ·have := h1 k e; omega
 have hnc : (n + 1) * c = n * c + c := by rw [Nat.add_mul, Nat.one_mul]
 refine ⟨ho, fun j hj => ?_, fun j hj k hk => ?_, fun i j hi hj hij k hk hk' => ?_⟩
 ·unfold joinF
  by_cases hlt : j < n * c
  ·rw [if_pos hlt, if_pos hlt, show nthV (cs ++ ns) j = nthV cs j by unfold nthV; simp [List.getElem?_append_left (by omega : j < cs.length)]]
   exact (h.own j hlt).turns ht (fun k hk e => (h.lim j hlt k hk).2.2 e)
  ·rw [if_neg hlt, if_neg hlt, show nthV (cs ++ ns) j = nthV ns (j - n * c) by unfold nthV; rw [List.getD_eq_getElem?_getD, List.getElem?_append_right (by omega), hl, ← List.getD_eq_getElem?_getD]]
   exact (hd (j - n * c) (by omega)).turns ht (fun k hk e => (hK (j - n * c) (by omega) k hk).2.2.1 e)
 ·unfold joinF at hk
  by_cases hlt : j < n * c
  ·rw [if_pos hlt] at hk
   have := h.lim j hlt k hk
   exact ⟨this.1, by omega, hv3 k this.2.1 this.2.2⟩
  ·rw [if_neg hlt] at hk
   have := hK (j - n * c) (by omega) k hk
   exact ⟨this.1, by omega, hv3 k this.2.1 this.2.2.1⟩
 ·unfold joinF at hk hk'
  by_cases hi1 : i < n * c <;> by_cases hj1 : j < n * c
  ·rw [if_pos hi1] at hk; rw [if_pos hj1] at hk'
   exact h.dis i j hi1 hj1 hij k hk hk'
  ·rw [if_pos hi1] at hk; rw [if_neg hj1] at hk'
   exact (hK (j - n * c) (by omega) k hk').2.2.2 i hi1 hk
  ·rw [if_neg hi1] at hk; rw [if_pos hj1] at hk'
   exact (hK (i - n * c) (by omega) k hk).2.2.2 j hj1 hk'
  ·rw [if_neg hi1] at hk; rw [if_neg hj1] at hk'
   exact hKK (i - n * c) (j - n * c) (by omega) (by omega) (by omega) k hk hk'
def GrowD.blocks (v : Value) (c n : Nat) (G : Nat → Nat → Prop) : Nat → Prop := fun k => v.ownBlock = some k ∨ ∃ j, j < n * c ∧ G j k
theorem GrowD.ownD {B : Nat} {T : TypeId} {w : World} {v : Value} {c n : Nat} {cs : List Value} {f : Nat → Dat} {G : Nat → Nat → Prop} (h : GrowD B T w v c n cs f G) : OwnD w (GrowD.blocks v c n G) v (.row c n f) := by
 obtain ⟨hl, ⟨rfl, rfl⟩ | ⟨g, cap, cur, rfl, hg, hc, h1, h2, h3, h4⟩⟩ := h.row
 ·exact .nil _ _ _ _ _ (Nat.zero_le _)
 ·have hlt : g < w.heap.size := (Array.getElem?_eq_some_iff.1 hc).1
  refine .row _ g n cap c f (nthV cs) G h1 h2 hlt (.inl rfl) (fun j hj => ⟨?_, by simp [World.frozen?, hc]⟩) h.own (fun j hj k hk => ⟨.inr ⟨j, hj, hk⟩, fun e => (h.lim j hj k hk).2.2 (by rw [e]; rfl)⟩) h.dis
  have hjc : j < cs.length := by omega
  have h5 : w.cell? ⟨g, j, none⟩ = cs[j]? := by
   rw [← h4, List.getElem?_take_of_lt hj]
   simp [World.cell?, hc]
  rw [h5, List.getElem?_eq_getElem hjc]
  simp [nthV, hjc]
theorem GrowD.blocks_ge {B : Nat} {T : TypeId} {w : World} {v : Value} {c n : Nat} {cs : List Value} {f : Nat → Dat} {G : Nat → Nat → Prop} (h : GrowD B T w v c n cs f G) {k : Nat} (hk : GrowD.blocks v c n G k) : B ≤ k ∧ k < w.heap.size := by
 rcases hk with hk | ⟨j, hj, hk⟩
 ·exact ⟨row_ge h.row hk, owns_lt h.row hk⟩
 ·exact ⟨(h.lim j hj k hk).1, (h.lim j hj k hk).2.1⟩
end Go.Proofs.YthfhibnnkpbeiaaGreat

/- One thing done, put behind a row of such things: what it owns. -/
namespace Go.Proofs.YthfhibnnkpbeiaaGreat
open Go.RowKit
theorem infoPX : (Tryz.prog.info? 126).map (fun i => (i.zero, i.size, i.bytes)) = some (some (.agg #[.int .i64 0, .int .i64 0, .int .i64 0]), 3, 24) := by kernel_rfl
theorem infoPQ : (Tryz.prog.info? 133).map (fun i => (i.zero, i.size, i.bytes)) = some (some (.agg #[.int .i64 0, .int .i64 0, .int .i64 0, .int .i64 0, .int .i64 0, .int .i64 0, .int .i64 0, .slice none 0 0, .int .i64 0, .int .i64 0, .slice none 0 0, .slice none 0 0]), 12, 144) := by kernel_rfl
theorem row_empty_any (w : World) (T : TypeId) (c : Nat) : (w.alloc (.cells #[] T)).ownsRow w.heap.size T c (.slice (some ⟨w.heap.size, 0, none⟩) 0 0) 0 [] :=
 ⟨by simp, .inr ⟨w.heap.size, 0, #[], rfl, Nat.le_refl _, (MapKept.heap_alloc w _).1, Nat.le_refl _, Nat.zero_le _, by simp, by simp⟩⟩
theorem Bk.src {w : World} {P : Nat} {T : TypeId} {l : List Value} (h : Bk w P T l.toArray) : ∀ j u, l[j]? = some u → w.cell? ((⟨P, 0, none⟩ : Addr).add j) = some u := fun j u hu => by
 rw [Addr.add_lit]
 simpa using h.cell (i := j) (by simpa using hu)
def pastL (q : Ps) (v7 v10 v11 : Value) : List Value := [.int .i64 q.e.t, .int .i64 q.e.s, .int .i64 q.e.q, .int .i64 q.e.d, .int .i64 q.e.k, .int .i64 q.e.v, .int .i64 q.e.g, v7, .int .i64 q.b.q, .int .i64 q.b.d, v10, v11]
def pastK (K7 K10 K11 : Nat → Prop) (r : Nat) : Nat → Prop := if r = 7 then K7 else if r = 10 then K10 else if r = 11 then K11 else fun _ => False
theorem past_own {w : World} {q : Ps} {v7 v10 v11 : Value} {K7 K10 K11 : Nat → Prop} (h7 : OwnD w K7 v7 (intsD q.b.r)) (h10 : OwnD w K10 v10 (evsD q.s)) (h11 : OwnD w K11 v11 (emsD q.x)) : ∀ r, r < 12 → OwnD w (pastK K7 K10 K11 r) (nthV (pastL q v7 v10 v11) r) (q.cell r)
 | 0, _ => .val _ _
 | 1, _ => .val _ _
 | 2, _ => .val _ _
 | 3, _ => .val _ _
 | 4, _ => .val _ _
 | 5, _ => .val _ _
 | 6, _ => .val _ _
 | 7, _ => h7
 | 8, _ => .val _ _
 | 9, _ => .val _ _
 | 10, _ => h10
 | 11, _ => h11
theorem GrowD.snocPs {B : Nat} {T : TypeId} {V0 w w3 : World} {v v3 v7 v10 v11 : Value} {n : Nat} {cs : List Value} {l : List Ps} {G : Nat → Nat → Prop} {K7 K10 K11 : Nat → Prop} (h0 : GrowD B T V0 v 12 n cs (pastsD_f l) G) (hb : Below V0.heap.size V0 w) (hB : B ≤ V0.heap.size)
  (h7 : OwnD w K7 v7 (intsD (psAt l n).b.r)) (h10 : OwnD w K10 v10 (evsD (psAt l n).s)) (h11 : OwnD w K11 v11 (emsD (psAt l n).x))
  (l7 : ∀ k, K7 k → V0.heap.size ≤ k ∧ k < w.heap.size) (l10 : ∀ k, K10 k → V0.heap.size ≤ k ∧ k < w.heap.size) (l11 : ∀ k, K11 k → V0.heap.size ≤ k ∧ k < w.heap.size)
  (d1 : ∀ k, K7 k → ¬ K10 k) (d2 : ∀ k, K7 k → ¬ K11 k) (d3 : ∀ k, K10 k → ¬ K11 k)
  (ho : w3.ownsRow B T 12 v3 (n + 1) (cs ++ pastL (psAt l n) v7 v10 v11)) (hg : w.grownBy w3 v.ownBlock) (hw : NewRow w v v3) :
  GrowD B T w3 v3 12 (n + 1) (cs ++ pastL (psAt l n) v7 v10 v11) (pastsD_f l) (joinF (n * 12) G (pastK K7 K10 K11)) := by
 have hK : ∀ r k, pastK K7 K10 K11 r k → V0.heap.size ≤ k ∧ k < w.heap.size := fun r k hk => by
  unfold pastK at hk
  split at hk
  ·exact l7 k hk
  ·split at hk
   ·exact l10 k hk
   ·split at hk
    ·exact l11 k hk
    ·exact hk.elim
 have hKK : ∀ i j, i ≠ j → ∀ k, pastK K7 K10 K11 i k → ¬ pastK K7 K10 K11 j k := fun i j hij k h1 h2 => by
  unfold pastK at h1 h2
  have e1 := d1 k
  have e2 := d2 k
  have e3 := d3 k
  split at h1 <;> split at h2
  ·omega
  ·split at h2
   ·exact e1 h1 h2
   ·split at h2
    ·exact e2 h1 h2
    ·exact h2
  ·split at h1
   ·exact e1 h2 h1
   ·split at h1
    ·exact e2 h2 h1
    ·exact h1
  ·split at h1 <;> split at h2
   ·omega
   ·split at h2
    ·exact e3 h1 h2
    ·exact h2
   ·split at h1
    ·exact e3 h2 h1
    ·exact h1
   ·split at h1 <;> split at h2
    ·omega
    ·exact h2
    ·exact h1
    ·exact h2
 have hbl : ∀ k, GrowD.blocks v 12 n G k → k < V0.heap.size := fun k hk => (h0.blocks_ge hk).2
 have h := (h0.below hb).snoc ho hg hw (past_own h7 h10 h11) (fun r hr k hk => ⟨by have := hK r k hk; omega, (hK r k hk).2, fun e => by have := hbl k (.inl e); have := hK r k hk; omega, fun j hj e => by have := hbl k (.inr ⟨j, hj, e⟩); have := hK r k hk; omega⟩) (fun i j hi hj hij => hKK i j hij)
 refine ⟨h.row, fun j hj => ?_, h.lim, h.dis⟩
 have := h.own j hj
 have e : joinF (n * 12) (pastsD_f l) (psAt l n).cell j = pastsD_f l j := by
  unfold joinF
  split
  ·rfl
  ·rename_i hlt
   have := pastsD_at l n (r := j - n * 12) (by omega)
   rw [show n * 12 + (j - n * 12) = j by omega] at this
   exact this.symm
 rw [e] at this
 exact this
end Go.Proofs.YthfhibnnkpbeiaaGreat

/- A model that is being made: its struct in a block, its lists in rows of their own. -/
namespace Go.Proofs.YthfhibnnkpbeiaaGreat
open Go.RowKit
def uAt (us : List Value) (i : Nat) : Value := us.getD i (.slice none 0 0)
def HsO (B : Nat) (w : World) (us : List Value) (hs : List (List O)) : Prop :=
 us.length = hs.length ∧ (∀ i, i < hs.length → w.ownsRow B 97 4 (uAt us i) (hAt hs i).length (cellsO (hAt hs i))) ∧ ∀ i j k, i < j → j < hs.length → (uAt us i).ownBlock = some k → ¬ (uAt us j).ownBlock = some k
theorem HsO.nil (B : Nat) (w : World) : HsO B w [] [] := ⟨rfl, fun i hi => by simp at hi, fun i j k _ hj => by simp at hj⟩
theorem HsO.turns {S : Nat → Prop} {B : Nat} {w w' : World} {us : List Value} {hs : List (List O)} (h : HsO B w us hs) (ht : Turns S w w') (hS : ∀ i k, i < hs.length → (uAt us i).ownBlock = some k → ¬ S k) : HsO B w' us hs :=
 ⟨h.1, fun i hi => owns_turns (h.2.1 i hi) ht (fun k hk => hS i k hi hk), h.2.2⟩
theorem uAt_left {us : List Value} {u : Value} {i : Nat} (h : i < us.length) : uAt (us ++ [u]) i = uAt us i := by
 unfold uAt; simp [List.getElem?_append_left h]
theorem uAt_last (us : List Value) (u : Value) : uAt (us ++ [u]) us.length = u := by unfold uAt; simp
theorem hAt_left {hs : List (List O)} {r : List O} {i : Nat} (h : i < hs.length) : hAt (hs ++ [r]) i = hAt hs i := by
 unfold hAt; simp [List.getElem?_append_left h]
theorem hAt_last (hs : List (List O)) (r : List O) : hAt (hs ++ [r]) hs.length = r := by unfold hAt; simp
theorem HsO.snoc {B B' : Nat} {w : World} {us : List Value} {hs : List (List O)} {u : Value} {r : List O} (h : HsO B w us hs) (hr : w.ownsRow B' 97 4 u r.length (cellsO r)) (hB : B ≤ B') (hold : ∀ i k, i < hs.length → (uAt us i).ownBlock = some k → k < B') : HsO B w (us ++ [u]) (hs ++ [r]) := by
 obtain ⟨h0, h1, h2⟩ := h
 refine ⟨by simp [h0], fun i hi => ?_, fun i j k hij hj hk => ?_⟩
 ·by_cases e : i < hs.length
  ·rw [uAt_left (by omega), hAt_left e]; exact h1 i e
  ·have : i = hs.length := by simp at hi; omega
   subst this
   rw [hAt_last, ← h0, uAt_last]
   exact owns_mono hr hB
 ·by_cases e : j < hs.length
  ·rw [uAt_left (by omega)] at hk ⊢
   exact h2 i j k hij e hk
  ·have : j = hs.length := by simp at hj; omega
   subst this
   rw [uAt_left (by omega)] at hk
   rw [← h0, uAt_last]
   intro e2
   have := hold i k hij hk
   have := row_ge hr e2
   omega
theorem HsO.old {B : Nat} {w : World} {us : List Value} {hs : List (List O)} (h : HsO B w us hs) : ∀ i k, i < hs.length → (uAt us i).ownBlock = some k → k < w.heap.size := fun i _ hi hk => owns_lt (h.2.1 i hi) hk
theorem HsO.isH {B B' : Nat} {w : World} {us : List Value} {hs : List (List O)} {v : Value} (h : HsO B w us hs) (hv : w.ownsRow B' 94 1 v hs.length us) : IsH w v hs := by
 have hF := RowF.of_owns (by rw [h.1]; omega) hv
 obtain ⟨hl, a, cap, rfl, h1, h2, h3⟩ := hF
 refine ⟨a, cap, rfl, h1, h2, h3.imp List.eq_nil_of_length_eq_zero ?_⟩
 rintro ⟨g, rfl, _, hg, hc⟩
 refine ⟨g, 0, rfl, hg, fun i hi => ⟨uAt us i, ?_, (RowF.of_owns (cellsO_length _) (h.2.1 i hi)).isO⟩⟩
 rw [Nat.zero_add, (hc i (by omega)).1]
 unfold uAt
 rw [List.getD_eq_getElem?_getD, List.getElem?_eq_getElem (by rw [h.1]; exact hi)]
 rfl
theorem infoSS : (Tryz.prog.info? 94).map (fun i => (i.zero, i.size, i.bytes)) = some (some (.slice none 0 0), 1, 24) := by kernel_rfl
theorem slice_ones (a : Option Addr) (n c : Nat) : ∀ u ∈ [Value.slice a n c], u.oneCell' = true := by
 intro u hu
 simp at hu
 subst hu
 rfl
abbrev Z6 : Array Value := #[.int .i64 0, .int .i64 0, .slice none 0 0, .slice none 0 0, .slice none 0 0, .int .i64 0]
structure MB (w : World) (B Rb Mb : Nat) (m : Md) (vi vh vs : Value) (us : List Value) : Prop where
 ne : Rb ≠ Mb
 r : Bk w Rb 31 Z6
 b : Bk w Mb 31 #[.int .i64 m.n, .int .i64 m.s, vi, vh, vs, .int .i64 m.z]
 i : w.ownsRow B 3 1 vi m.i.length (intCells m.i)
 h : w.ownsRow B 94 1 vh m.h.length us
 u : HsO B w us m.h
 e : w.ownsRow B 99 7 vs m.e.length (cellsL m.e)
theorem MB.turns {S : Nat → Prop} {w w' : World} {B Rb Mb : Nat} {m : Md} {vi vh vs : Value} {us : List Value} (g : MB w B Rb Mb m vi vh vs us) (ht : Turns S w w') (h1 : ¬ S Rb) (h2 : ¬ S Mb) (h3 : ∀ k, vi.ownBlock = some k → ¬ S k) (h4 : ∀ k, vh.ownBlock = some k → ¬ S k) (h5 : ∀ i k, i < m.h.length → (uAt us i).ownBlock = some k → ¬ S k) (h6 : ∀ k, vs.ownBlock = some k → ¬ S k) : MB w' B Rb Mb m vi vh vs us :=
 ⟨g.ne, g.r.turns ht h1, g.b.turns ht h2, owns_turns g.i ht h3, owns_turns g.h ht h4, g.u.turns ht h5, owns_turns g.e ht h6⟩
theorem MB.below {w w' : World} {B Rb Mb : Nat} {m : Md} {vi vh vs : Value} {us : List Value} (g : MB w B Rb Mb m vi vh vs us) (hb : Below w.heap.size w w') : MB w' B Rb Mb m vi vh vs us :=
 g.turns (S := fun _ => False) (Turns.of_below hb) id id (fun _ _ => id) (fun _ _ => id) (fun _ _ _ _ => id) (fun _ _ => id)
theorem MB.alloc {w : World} {B Rb Mb : Nat} {m : Md} {vi vh vs : Value} {us : List Value} (g : MB w B Rb Mb m vi vh vs us) (o : Obj) : MB (w.alloc o) B Rb Mb m vi vh vs us := g.below ((Below.refl _ w).alloc (Nat.le_refl _) o)
theorem MB.drew {w : World} {B Rb Mb : Nat} {m : Md} {vi vh vs : Value} {us : List Value} (g : MB w B Rb Mb m vi vh vs us) : MB w.drew B Rb Mb m vi vh vs us := g.below (Below.refl _ w).drew
theorem MB.putH {w w3 : World} {B B' Rb Mb : Nat} {m : Md} {vi vh vs v3 u : Value} {us : List Value} {r : List O} (g : MB w B Rb Mb m vi vh vs us) (hu : w.ownsRow B' 97 4 u r.length (cellsO r)) (hB : B ≤ B') (hold : ∀ i k, i < m.h.length → (uAt us i).ownBlock = some k → k < B') (ho : w3.ownsRow B 94 1 v3 (m.h.length + 1) (us ++ [u])) (hg : w.grownBy w3 vh.ownBlock) : MB (w3.setCell ⟨Mb, 3, none⟩ v3) B Rb Mb ⟨m.n, m.s, m.i, m.h ++ [r], m.e, m.z⟩ vi v3 vs (us ++ [u]) := by
 have ht := grown_turns hg
 have r3 := g.r.turns ht (owns_ne g.h g.r (by decide))
 have b3 := g.b.turns ht (owns_ne g.h g.b (by decide))
 have i3 := owns_turns g.i ht (fun k hk e => owns_apart g.h g.i (by decide) e hk)
 have u3 := (g.u.snoc hu hB hold).turns ht (fun i k hi hk e => owns_apart g.h ((g.u.snoc hu hB hold).2.1 i hi) (by decide) e hk)
 have e3 := owns_turns g.e ht (fun k hk e => owns_apart g.h g.e (by decide) e hk)
 have hp := put1_turns w3 Mb 3 v3
 refine ⟨g.ne, r3.turns hp g.ne, b3.put 3 _, owns_turns i3 hp (fun k hk e => owns_ne i3 b3 (by decide) (e ▸ hk)), ?_, u3.turns hp (fun i k hi hk e => owns_ne (u3.2.1 i hi) b3 (by decide) (e ▸ hk)), owns_turns e3 hp (fun k hk e => owns_ne e3 b3 (by decide) (e ▸ hk))⟩
 have := owns_turns ho hp (fun k hk e => owns_ne ho b3 (by decide) (e ▸ hk))
 simpa using this
theorem MB.isM {w : World} {B Rb Mb : Nat} {m : Md} {vi vh vs : Value} {us : List Value} (g : MB w B Rb Mb m vi vh vs us) : IsM w (.agg #[.int .i64 m.n, .int .i64 m.s, vi, vh, vs, .int .i64 m.z]) m :=
 ⟨vi, vh, vs, rfl, (RowF.of_owns (by rw [intCells_length]; omega) g.i).isI, g.u.isH g.h, (RowF.of_owns (cellsL_length _) g.e).isEvs⟩
def Aw (N Rb Mb : Nat) (vi vh vs : Value) (us : List Value) (n : Nat) : Prop := Rb < N ∧ Mb < N ∧ (∀ k, vi.ownBlock = some k → k < N) ∧ (∀ k, vh.ownBlock = some k → k < N) ∧ (∀ i k, i < n → (uAt us i).ownBlock = some k → k < N) ∧ ∀ k, vs.ownBlock = some k → k < N
theorem MB.aw {w : World} {B Rb Mb : Nat} {m : Md} {vi vh vs : Value} {us : List Value} (g : MB w B Rb Mb m vi vh vs us) : Aw w.heap.size Rb Mb vi vh vs us m.h.length :=
 ⟨g.r.lt, g.b.lt, fun _ hk => owns_lt g.i hk, fun _ hk => owns_lt g.h hk, g.u.old, fun _ hk => owns_lt g.e hk⟩
structure MO (w : World) (B : Nat) (m : Md) (vi vh vs : Value) (us : List Value) : Prop where
 i : w.ownsRow B 3 1 vi m.i.length (intCells m.i)
 h : w.ownsRow B 94 1 vh m.h.length us
 u : HsO B w us m.h
 e : w.ownsRow B 99 7 vs m.e.length (cellsL m.e)
theorem MB.mo {w w' : World} {B Rb Mb : Nat} {m : Md} {vi vh vs : Value} {us : List Value} (g : MB w B Rb Mb m vi vh vs us) (ht : Turns (fun k => k = Rb) w w') : MO w' B m vi vh vs us :=
 ⟨owns_turns g.i ht (fun _ hk e => owns_ne g.i g.r (by decide) (e ▸ hk)), owns_turns g.h ht (fun _ hk e => owns_ne g.h g.r (by decide) (e ▸ hk)), g.u.turns ht (fun i _ hi hk e => owns_ne (g.u.2.1 i hi) g.r (by decide) (e ▸ hk)), owns_turns g.e ht (fun _ hk e => owns_ne g.e g.r (by decide) (e ▸ hk))⟩
theorem MB.grownA {w w' : World} {N B Rb Mb : Nat} {m : Md} {vi vh vs : Value} {us : List Value} {row : Option Nat} (g : MB w B Rb Mb m vi vh vs us) (a : Aw N Rb Mb vi vh vs us m.h.length) (hg : w.grownBy w' row) (hr : ∀ k, row = some k → N ≤ k) : MB w' B Rb Mb m vi vh vs us := by
 obtain ⟨a1, a2, a3, a4, a5, a6⟩ := a
 exact g.turns (grown_turns hg) (fun e => by have := hr _ e; omega) (fun e => by have := hr _ e; omega) (fun k hk e => by have := a3 k hk; have := hr _ e; omega) (fun k hk e => by have := a4 k hk; have := hr _ e; omega) (fun i k hi hk e => by have := a5 i k hi hk; have := hr _ e; omega) (fun k hk e => by have := a6 k hk; have := hr _ e; omega)
theorem RowF.ownB {B : Nat} {T : TypeId} {w : World} {x : Value} {n c : Nat} {cs : List Value} (hcs : cs.length = n * c) (h : w.ownsRow B T c x n cs) : RowF (fun k => x.ownBlock = some k) w x n c cs := by
 obtain ⟨hl, a, cap, rfl, h1, h2, h3⟩ := RowF.of_owns hcs h
 refine ⟨hl, a, cap, rfl, h1, h2, h3.imp id ?_⟩
 rintro ⟨g, rfl, _, h4⟩
 exact ⟨g, rfl, by simp [Value.ownBlock], h4⟩
theorem us_range {us : List Value} {n : Nat} (h : us.length = n) : (List.range n).map (uAt us) = us := by
 subst h
 apply List.ext_getElem?
 intro i
 by_cases hi : i < us.length
 ·simp [hi, uAt]
 ·simp [hi]
theorem HsO.hsF {B B' : Nat} {w : World} {us : List Value} {hs : List (List O)} {v : Value} (h : HsO B w us hs) (hv : w.ownsRow B' 94 1 v hs.length us) : HsF (fun k => v.ownBlock = some k ∨ ∃ i, i < hs.length ∧ (uAt us i).ownBlock = some k) w v hs := by
 refine ⟨uAt us, (fun k => v.ownBlock = some k), (fun i k => (uAt us i).ownBlock = some k), ?_, fun k e => .inl e, fun i hi => ⟨RowF.ownB (cellsO_length _) (h.2.1 i hi), fun k e => ⟨.inr ⟨i, hi, e⟩, fun e' => owns_apart hv (h.2.1 i hi) (by decide) e' e⟩⟩, fun i j hi hj hij k e => ?_⟩
 ·rw [us_range h.1]
  exact RowF.ownB (by rw [h.1]; omega) hv
 ·by_cases hlt : i < j
  ·exact h.2.2 i j k hlt hj e
  ·intro e'
   exact h.2.2 j i k (by omega) hi e' e
theorem MO.mdf {w : World} {B : Nat} {m : Md} {vi vh vs : Value} {us : List Value} (g : MO w B m vi vh vs us) : MdF (fun k => B ≤ k ∧ k < w.heap.size) w (.agg #[.int .i64 m.n, .int .i64 m.s, vi, vh, vs, .int .i64 m.z]) m := by
 refine ⟨(fun k => vi.ownBlock = some k), (fun k => vh.ownBlock = some k ∨ ∃ i, i < m.h.length ∧ (uAt us i).ownBlock = some k), (fun k => vs.ownBlock = some k), vi, vh, vs, rfl, RowF.ownB (by rw [intCells_length]; omega) g.i, g.u.hsF g.h, RowF.ownB (cellsL_length _) g.e, fun k e => ⟨⟨row_ge g.i e, owns_lt g.i e⟩, ?_, owns_apart g.i g.e (by decide) e⟩, ?_, fun k e => ⟨row_ge g.e e, owns_lt g.e e⟩⟩
 ·rintro (e' | ⟨i, hi, e'⟩)
  ·exact owns_apart g.i g.h (by decide) e e'
  ·exact owns_apart g.i (g.u.2.1 i hi) (by decide) e e'
 ·rintro k (e | ⟨i, hi, e⟩)
  ·exact ⟨⟨row_ge g.h e, owns_lt g.h e⟩, owns_apart g.h g.e (by decide) e⟩
  ·exact ⟨⟨row_ge (g.u.2.1 i hi) e, owns_lt (g.u.2.1 i hi) e⟩, owns_apart (g.u.2.1 i hi) g.e (by decide) e⟩
end Go.Proofs.YthfhibnnkpbeiaaGreat

