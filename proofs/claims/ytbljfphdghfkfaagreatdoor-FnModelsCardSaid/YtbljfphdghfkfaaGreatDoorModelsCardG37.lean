/- CPc, CAp2 -/
import Derived.Test.YtbljfphdghfkfaaGreatDoorModelsCardG36
import Derived.Test.YtbljfphdghfkfaaGreatDoorModelsCardG25
import Derived.Test.YtbljfphdghfkfaaGreatDoorModelsCardG17
/- A program's course in memory: one block holds the model, what is decided, the states, where the heap lies, the history. -/
namespace Go.Proofs.YtbljfphdghfkfaaGreatDoor
open Go.RowKit
def courseL (ms : List Value) (c0 c1 c2 c3 : Int) (l : List Pt) (P : Nat) (ve vx : Value) (k : Int) (f : Bool) : List Value :=
 ms ++ ([.int .i64 c0, .int .i64 c1, .int .i64 c2, .int .i64 c3] ++ (cellsT l ++ [pv P, ve, vx, .int .i64 k, .bool f]))
theorem list6 {α : Type} {l : List α} (h : l.length = 6) : ∃ a b c d e f, l = [a, b, c, d, e, f] := by
 match l, h with
 | [a, b, c, d, e, f], _ => exact ⟨a, b, c, d, e, f, rfl⟩
theorem list4 {α : Type} {l : List α} (h : l.length = 4) : ∃ a b c d, l = [a, b, c, d] := by
 match l, h with
 | [a, b, c, d], _ => exact ⟨a, b, c, d, rfl⟩
def AP (B : Nat) (w : World) (Cb P : Nat) (v ve vx : Value) (k : Nat) : Prop := (B ≤ k ∧ k < w.heap.size) ∧ k ≠ Cb ∧ k ≠ P ∧ v.ownBlock ≠ some k ∧ ve.ownBlock ≠ some k ∧ vx.ownBlock ≠ some k
structure PCo (B Cb P : Nat) (w : World) (ms : List Value) (c0 c1 c2 c3 : Int) (l : List Pt) (v ve vx : Value) (c : Co) : Prop where
 pl : Pl w B P v c.td
 cb : Bk w Cb 101 (courseL ms c0 c1 c2 c3 l P ve vx (-1) false).toArray
 m6 : ms.length = 6
 l4 : l.length = 4
 ss : ∀ j, j < 4 → RowF (AP B w Cb P v ve vx) w (tAt l j).1 (tAt l j).2.r.length 1 (intCells (tAt l j).2.r)
 sl : ∀ j, j < c.st.length → (tAt l j).2 = stAt c.st j
 es : OwnR B w ve c.ev
 xs : w.ownsRow B 108 3 vx c.em.length (cellsX c.em)
 ap : ∀ k, v.ownBlock = some k → ve.ownBlock ≠ some k
 lo : B ≤ Cb
section
variable {B Cb P : Nat} {w w' : World} {ms : List Value} {c0 c1 c2 c3 : Int} {l : List Pt} {v ve vx : Value} {c : Co}
theorem rowOff {H : Nat} {U T : TypeId} {n k : Nat} {v : Value} {cs : List Value} {vs : Array Value} (hH : Bk w H U vs) (ho : w.ownsRow B T n v k cs) (hT : T ≠ U) : ∀ j, v.ownBlock = some j → ¬ j = H := fun j e e' => by
 subst e'
 exact Bk.off hH ho hT e.symm
theorem Pl.bk {l : List Ev} (h : Pl w B P v l) : Bk w P 163 #[v] := h.box
theorem PCo.cp (h : PCo B Cb P w ms c0 c1 c2 c3 l v ve vx c) : Cb ≠ P := fun e => by
 have h1 := h.pl.bk
 have h2 := h.cb
 unfold Bk at h1 h2
 rw [e, h1] at h2
 simp at h2
theorem PCo.below (h : PCo B Cb P w ms c0 c1 c2 c3 l v ve vx c) (hb : Below w.heap.size w w') : PCo B Cb P w' ms c0 c1 c2 c3 l v ve vx c :=
 ⟨h.pl.turns (S := fun _ => False) (Turns.of_below hb) id (fun _ _ => id), h.cb.below hb, h.m6, h.l4, fun j hj => ((h.ss j hj).below hb).mono fun _ hk => ⟨⟨hk.1.1, Nat.lt_of_lt_of_le hk.1.2 hb.size⟩, hk.2⟩, h.sl, h.es.below hb, owns_turns (S := fun _ => False) h.xs (Turns.of_below hb) (fun _ _ => id), h.ap, h.lo⟩
theorem PCo.todo (h : PCo B Cb P w ms c0 c1 c2 c3 l v ve vx c) {v' : Value} {t : List Ev} (ht : Turns (fun k => k = P ∨ v.ownBlock = some k) w w') (hp : Pl w' B P v' t) (hn : NewRow w v v') : PCo B Cb P w' ms c0 c1 c2 c3 l v' ve vx ⟨t, c.st, c.ev, c.em⟩ := by
 have hoff : ∀ {T : TypeId} {n k : Nat} {u : Value} {cs : List Value}, w.ownsRow B T n u k cs → T ≠ 163 → (∀ j, u.ownBlock = some j → v.ownBlock ≠ some j) → ∀ j, u.ownBlock = some j → ¬ (j = P ∨ v.ownBlock = some j) := fun ho hT hd j e hj => hj.elim (rowOff h.pl.bk ho hT j e) (hd j e)
 refine ⟨hp, h.cb.turns ht (fun e => e.elim h.cp (fun e => rowOff h.cb h.pl.row (by decide) _ e rfl)), h.m6, h.l4, fun j hj => ((h.ss j hj).turns ht (fun k hk e => e.elim hk.2.2.1 hk.2.2.2.1)).mono fun k hk => ⟨⟨hk.1.1, Nat.lt_of_lt_of_le hk.1.2 ht.size⟩, hk.2.1, hk.2.2.1, fun e => ?_, hk.2.2.2.2⟩, h.sl, owns_turns h.es ht (hoff h.es (by decide) (fun j e e' => h.ap j e' e)), owns_turns h.xs ht (hoff h.xs (by decide) (fun j e e' => apart_blocks h.xs h.pl.row (by decide) e e')), fun k e e' => ?_, h.lo⟩
 ·rcases hn with q | q
  ·rw [q] at e; exact hk.2.2.2.1 e
  ·have := q k e; have := hk.1.2; omega
 ·rcases hn with q | q
  ·rw [q] at e; exact h.ap k e e'
  ·have := q k e; have := (World.ownsRow.lt h.es k e').2; omega
theorem course_ev (hm : ms.length = 6) (hl : l.length = 4) (k : Int) (f : Bool) (ve' : Value) : (courseL ms c0 c1 c2 c3 l P ve vx k f).toArray.setIfInBounds 23 ve' = (courseL ms c0 c1 c2 c3 l P ve' vx k f).toArray := by
 obtain ⟨a0, a1, a2, a3, a4, a5, rfl⟩ := list6 hm
 obtain ⟨p0, p1, p2, p3, rfl⟩ := list4 hl
 rfl
theorem course_em (hm : ms.length = 6) (hl : l.length = 4) (k : Int) (f : Bool) (vx' : Value) : (courseL ms c0 c1 c2 c3 l P ve vx k f).toArray.setIfInBounds 24 vx' = (courseL ms c0 c1 c2 c3 l P ve vx' k f).toArray := by
 obtain ⟨a0, a1, a2, a3, a4, a5, rfl⟩ := list6 hm
 obtain ⟨p0, p1, p2, p3, rfl⟩ := list4 hl
 rfl
theorem course_asks (hm : ms.length = 6) (hl : l.length = 4) (k k' : Int) (f : Bool) : (courseL ms c0 c1 c2 c3 l P ve vx k f).toArray.setIfInBounds 25 (.int .i64 k') = (courseL ms c0 c1 c2 c3 l P ve vx k' f).toArray := by
 obtain ⟨a0, a1, a2, a3, a4, a5, rfl⟩ := list6 hm
 obtain ⟨p0, p1, p2, p3, rfl⟩ := list4 hl
 rfl
theorem course_full (hm : ms.length = 6) (hl : l.length = 4) (k : Int) (f f' : Bool) : (courseL ms c0 c1 c2 c3 l P ve vx k f).toArray.setIfInBounds 26 (.bool f') = (courseL ms c0 c1 c2 c3 l P ve vx k f').toArray := by
 obtain ⟨a0, a1, a2, a3, a4, a5, rfl⟩ := list6 hm
 obtain ⟨p0, p1, p2, p3, rfl⟩ := list4 hl
 rfl
theorem course_st (hm : ms.length = 6) (hl : l.length = 4) (k : Int) (f : Bool) {i : Nat} (hi : i < 4) (p : Pt) : ((((courseL ms c0 c1 c2 c3 l P ve vx k f).toArray.setIfInBounds (10 + i * 3) p.1).setIfInBounds (10 + i * 3 + 1) (.int .i64 p.2.q)).setIfInBounds (10 + i * 3 + 2) (.int .i64 p.2.d)) = (courseL ms c0 c1 c2 c3 (l.set i p) P ve vx k f).toArray := by
 obtain ⟨a0, a1, a2, a3, a4, a5, rfl⟩ := list6 hm
 obtain ⟨p0, p1, p2, p3, rfl⟩ := list4 hl
 match i, hi with
 | 0, _ => rfl
 | 1, _ => rfl
 | 2, _ => rfl
 | 3, _ => rfl
theorem course_td (hm : ms.length = 6) (hl : l.length = 4) (k : Int) (f : Bool) : (courseL ms c0 c1 c2 c3 l P ve vx k f).toArray[22]? = some (pv P) ∧ (courseL ms c0 c1 c2 c3 l P ve vx k f).toArray[23]? = some ve ∧ (courseL ms c0 c1 c2 c3 l P ve vx k f).toArray[24]? = some vx ∧ (courseL ms c0 c1 c2 c3 l P ve vx k f).toArray[25]? = some (.int .i64 k) ∧ (courseL ms c0 c1 c2 c3 l P ve vx k f).toArray[26]? = some (.bool f) := by
 obtain ⟨a0, a1, a2, a3, a4, a5, rfl⟩ := list6 hm
 obtain ⟨p0, p1, p2, p3, rfl⟩ := list4 hl
 exact ⟨rfl, rfl, rfl, rfl, rfl⟩
theorem course_at (hm : ms.length = 6) (hl : l.length = 4) (k : Int) (f : Bool) {i : Nat} (hi : i < 4) : (courseL ms c0 c1 c2 c3 l P ve vx k f).toArray[10 + i * 3]? = some (tAt l i).1 ∧ (courseL ms c0 c1 c2 c3 l P ve vx k f).toArray[10 + i * 3 + 1]? = some (.int .i64 (tAt l i).2.q) ∧ (courseL ms c0 c1 c2 c3 l P ve vx k f).toArray[10 + i * 3 + 2]? = some (.int .i64 (tAt l i).2.d) := by
 obtain ⟨a0, a1, a2, a3, a4, a5, rfl⟩ := list6 hm
 obtain ⟨p0, p1, p2, p3, rfl⟩ := list4 hl
 match i, hi with
 | 0, _ => exact ⟨rfl, rfl, rfl⟩
 | 1, _ => exact ⟨rfl, rfl, rfl⟩
 | 2, _ => exact ⟨rfl, rfl, rfl⟩
 | 3, _ => exact ⟨rfl, rfl, rfl⟩
theorem PCo.state (h : PCo B Cb P w ms c0 c1 c2 c3 l v ve vx c) {i : Nat} (hi : i < c.st.length) (hi4 : i < 4) (p : Pt) (hp : RowF (AP B w Cb P v ve vx) w p.1 p.2.r.length 1 (intCells p.2.r)) :
  PCo B Cb P (put3o w Cb (10 + i * 3) p.1 (.int .i64 p.2.q) (.int .i64 p.2.d)) ms c0 c1 c2 c3 (l.set i p) v ve vx ⟨c.td, c.st.set i p.2, c.ev, c.em⟩ := by
 have ht := put3o_turns w Cb (10 + i * 3) p.1 (.int .i64 p.2.q) (.int .i64 p.2.d)
 have hsz : (put3o w Cb (10 + i * 3) p.1 (.int .i64 p.2.q) (.int .i64 p.2.d)).heap.size = w.heap.size := by simp
 have hil : i < l.length := by rw [h.l4]; exact hi4
 have hA : ∀ k, AP B w Cb P v ve vx k → AP B (put3o w Cb (10 + i * 3) p.1 (.int .i64 p.2.q) (.int .i64 p.2.d)) Cb P v ve vx k := fun k hk => ⟨⟨hk.1.1, by rw [hsz]; exact hk.1.2⟩, hk.2⟩
 refine ⟨h.pl.turns ht (fun e => h.cp e.symm) (rowOff h.cb h.pl.row (by decide)), ?_, h.m6, by rw [List.length_set]; exact h.l4, fun j hj => ?_, fun j hj => ?_, owns_turns h.es ht (rowOff h.cb h.es (by decide)), owns_turns h.xs ht (rowOff h.cb h.xs (by decide)), h.ap, h.lo⟩
 ·have h3 := ((h.cb.put (10 + i * 3) p.1).put (10 + i * 3 + 1) (.int .i64 p.2.q)).put (10 + i * 3 + 2) (.int .i64 p.2.d)
  rw [course_st h.m6 h.l4 _ _ hi4 p] at h3
  exact h3
 ·rw [tAt_set _ _ _ _ hil]
  split
  ·exact (hp.turns ht (fun k hk e => hk.2.1 e)).mono hA
  ·exact ((h.ss j hj).turns ht (fun k hk e => hk.2.1 e)).mono hA
 ·have hj' : j < c.st.length := by simpa using hj
  show (tAt (l.set i p) j).2 = stAt (c.st.set i p.2) j
  rw [tAt_set _ _ _ _ hil, stAt_set _ _ _ _ hi]
  split
  ·rfl
  ·exact h.sl j hj'
theorem PCo.event {w3 : World} {ve' : Value} {e : Ev} (h : PCo B Cb P w ms c0 c1 c2 c3 l v ve vx c) (hg : w.grownBy w3 ve.ownBlock) (hn : NewRow w ve ve') (hr : w3.ownsRow B 53 7 ve' (c.ev.length + 1) (cellsL c.ev ++ e.cs)) :
  PCo B Cb P (w3.setCell ⟨Cb, 23, none⟩ ve') ms c0 c1 c2 c3 l v ve' vx ⟨c.td, c.st, c.ev ++ [e], c.em⟩ := by
 have h1 : Turns (fun k => ve.ownBlock = some k) w w3 := (Turns.refl _ w).grown hg (fun k e => e)
 have h2 : Turns (fun k => k = Cb) w3 (w3.setCell ⟨Cb, 23, none⟩ ve') := put1_turns w3 Cb 23 ve'
 have hc3 : Bk w3 Cb 101 (courseL ms c0 c1 c2 c3 l P ve vx (-1) false).toArray := h.cb.turns h1 (fun e => rowOff h.cb h.es (by decide) Cb e rfl)
 have hp3 : Pl w3 B P v c.td := h.pl.turns h1 (fun e => rowOff h.pl.bk h.es (by decide) P e rfl) h.ap
 have hxs := owns_turns h.xs h1 (fun k e e' => apart_blocks h.xs h.es (by decide) e e')
 have s3 : w.heap.size ≤ w3.heap.size := hg.size
 refine ⟨hp3.turns h2 (fun e => h.cp e.symm) (rowOff hc3 hp3.row (by decide)), ?_, h.m6, h.l4, fun j hj => ((((h.ss j hj).turns h1 (fun k hk => hk.2.2.2.2.1)).turns h2 (fun k hk => hk.2.1))).mono fun k hk => ⟨⟨hk.1.1, by have := hk.1.2; simp; omega⟩, hk.2.1, hk.2.2.1, hk.2.2.2.1, ?_, hk.2.2.2.2.2⟩, h.sl, ?_, owns_turns hxs h2 (rowOff hc3 hxs (by decide)), newRow_ne hn h.ap h.pl.row, h.lo⟩
 ·have h3 := hc3.put 23 ve'
  rw [course_ev h.m6 h.l4] at h3
  exact h3
 ·intro e'
  rcases hn with q | q
  ·rw [q] at e'; exact hk.2.2.2.2.1 e'
  ·have := q k e'; have := hk.1.2; omega
 ·have hr' : OwnR B w3 ve' (c.ev ++ [e]) := by
   unfold OwnR
   rw [cellsL_append, List.length_append]
   simpa [cellsL] using hr
  exact owns_turns hr' h2 (rowOff hc3 hr' (by decide))
theorem PCo.emits {w3 : World} {vx' : Value} {x : List Em} (h : PCo B Cb P w ms c0 c1 c2 c3 l v ve vx c) (hg : w.grownBy w3 vx.ownBlock) (hn : NewRow w vx vx') (hr : w3.ownsRow B 108 3 vx' (c.em.length + x.length) (cellsX c.em ++ cellsX x)) :
  PCo B Cb P (w3.setCell ⟨Cb, 24, none⟩ vx') ms c0 c1 c2 c3 l v ve vx' ⟨c.td, c.st, c.ev, c.em ++ x⟩ := by
 have h1 : Turns (fun k => vx.ownBlock = some k) w w3 := (Turns.refl _ w).grown hg (fun k e => e)
 have h2 : Turns (fun k => k = Cb) w3 (w3.setCell ⟨Cb, 24, none⟩ vx') := put1_turns w3 Cb 24 vx'
 have hc3 : Bk w3 Cb 101 (courseL ms c0 c1 c2 c3 l P ve vx (-1) false).toArray := h.cb.turns h1 (fun e => rowOff h.cb h.xs (by decide) Cb e rfl)
 have hp3 : Pl w3 B P v c.td := h.pl.turns h1 (fun e => rowOff h.pl.bk h.xs (by decide) P e rfl) (fun k e e' => apart_blocks h.pl.row h.xs (by decide) e e')
 have hes := owns_turns h.es h1 (fun k e e' => apart_blocks h.es h.xs (by decide) e e')
 have s3 : w.heap.size ≤ w3.heap.size := hg.size
 refine ⟨hp3.turns h2 (fun e => h.cp e.symm) (rowOff hc3 hp3.row (by decide)), ?_, h.m6, h.l4, fun j hj => ((((h.ss j hj).turns h1 (fun k hk => hk.2.2.2.2.2)).turns h2 (fun k hk => hk.2.1))).mono fun k hk => ⟨⟨hk.1.1, by have := hk.1.2; simp; omega⟩, hk.2.1, hk.2.2.1, hk.2.2.2.1, hk.2.2.2.2.1, ?_⟩, h.sl, owns_turns hes h2 (rowOff hc3 hes (by decide)), ?_, h.ap, h.lo⟩
 ·have h3 := hc3.put 24 vx'
  rw [course_em h.m6 h.l4] at h3
  exact h3
 ·intro e'
  rcases hn with q | q
  ·rw [q] at e'; exact hk.2.2.2.2.2 e'
  ·have := q k e'; have := hk.1.2; omega
 ·rw [cellsX_append, List.length_append]
  exact owns_turns hr h2 (rowOff hc3 hr (by decide))
theorem PCo.done {S : Nat → Prop} {we : World} (h : PCo B Cb P w ms c0 c1 c2 c3 l v ve vx c) (hT : Turns S w we) (hS : ∀ k, S k → k < B ∨ k = Cb) (k : Int) (f : Bool) :
  HiF (fun j => B ≤ j ∧ j < we.heap.size) we (.agg #[ve, vx, .int .i64 k, .bool f]) ⟨c.ev, c.em, k, f⟩ :=
 hi_of (owns_turns h.es hT (fun j e hj => by have := (World.ownsRow.lt h.es j e).1; rcases hS j hj with q | q; omega; exact rowOff h.cb h.es (by decide) j e q)) (owns_turns h.xs hT (fun j e hj => by have := (World.ownsRow.lt h.xs j e).1; rcases hS j hj with q | q; omega; exact rowOff h.cb h.xs (by decide) j e q))
end
end Go.Proofs.YtbljfphdghfkfaaGreatDoor

/- append of nothing; an event just laid, cell by cell. -/
namespace Go.Proofs.YtbljfphdghfkfaaGreatDoor
open Go.RowKit
theorem run_append_zero {P : Program} {w : World} (base : Nat) (t ty e : TypeId) (i : TypeInfo) (size : Nat) (ht : P.underlying t = some (.slice e)) (hi : P.info? e = some i)
  (v : Value) (n c : Nat) (xs : List Value) (hown : w.ownsRow base e size v n xs) :
  (Builtin.append_ #[t, t] ty #[v, .slice none 0 c]).run P w = .ok v w := by
 rcases hown.2 with ⟨rfl, rfl⟩ | ⟨g, cap, cur, rfl, _, _, hnc, _⟩
 ·simp [Builtin.append_, run_underlying ht, sizeOf, typeInfo, hi, Builtin.lenOf, Builtin.firstCells]
 ·simp [Builtin.append_, run_underlying ht, sizeOf, typeInfo, hi, Builtin.lenOf, Builtin.firstCells, hnc, storeCells]
theorem new7 (w : World) (T : TypeId) (a0 a1 a2 a3 a4 a5 a6 : Value) : ∀ j u, [a0, a1, a2, a3, a4, a5, a6][j]? = some u → (w.alloc (.cells #[a0, a1, a2, a3, a4, a5, a6] T)).cell? (Addr.add ⟨w.heap.size, 0, none⟩ j) = some u := by
 intro j u h
 have hB := Bk.new w T #[a0, a1, a2, a3, a4, a5, a6]
 rw [addr_add]
 exact hB.cell (by simpa using h)
theorem one7 {t s q d k v g : Int} : ∀ u ∈ [Value.int .i64 t, .int .i64 s, .int .i64 q, .int .i64 d, .int .i64 k, .int .i64 v, .int .i64 g], u.oneCell' = true := by
 intro u hu
 simp only [List.mem_cons, List.not_mem_nil, or_false] at hu
 rcases hu with rfl | rfl | rfl | rfl | rfl | rfl | rfl <;> rfl
theorem grown_self (w : World) (row : Option Nat) : w.grownBy w row := ⟨rfl, rfl, rfl, Nat.le_refl _, fun _ _ _ => rfl⟩
end Go.Proofs.YtbljfphdghfkfaaGreatDoor

