/- CBeg, Rowed, CSt, VQuiet, VNum, NCur, NDraw, VDraw, LMB, NBytes, VToB, MAskS -/
import Derived.Test.YtbljfphdghfkfaaGreatDoorModelsCardG16
import Derived.Test.YtbljfphdghfkfaaGreatDoorModelsCardG05
import Derived.Test.YtbljfphdghfkfaaGreatDoorModelsCardG00
import Derived.Laws.OwnMore
import Derived.WalkSmall
import Derived.Test.YtbljfphdghfkfaaGreatDoorModelsCardG12
import Derived.Test.YtbljfphdghfkfaaGreatDoorModelsCardG03
import Derived.Deep.QuietTactic
import Derived.BigQuiet
import Derived.Lib.OthersKept
import Derived.BigRegion
import Derived.Test.YtbljfphdghfkfaaGreatDoorModelsCardG09
import Derived.Lib.UnsafeStr
import Derived.OwnWalk
import Derived.Deep.RegionHeld3
/- How a course begins. -/
namespace Go.Proofs.YtbljfphdghfkfaaGreatDoor
open Go.RowKit
def bares (l : List Ev) : List Ev := l.map Ev.bare
theorem bares_length (l : List Ev) : (bares l).length = l.length := by simp [bares]
theorem bares_at (l : List Ev) (i : Nat) (h : i < l.length) : evAt (bares l) i = (evAt l i).bare := by
 simp [evAt, bares, h]
theorem bares_same {l : List Ev} (h : ∀ i, i < l.length → (evAt l i).g = 0) : bares l = l := by
 refine ext_ev (bares_length l) fun j hj => ?_
 rw [bares_length] at hj
 rw [bares_at _ _ hj]
 have := h j hj
 generalize evAt l j = e at this ⊢
 cases e
 simp only [Ev.bare, Ev.mk.injEq, true_and]
 exact this.symm
def firsts (m : Md) (n : Nat) : List St := (List.range n).map fun j : Nat => firstS m (j : Int)
theorem firsts_length (m : Md) (n : Nat) : (firsts m n).length = n := by simp [firsts]
theorem firsts_at (m : Md) (n j : Nat) (h : j < n) : stAt (firsts m n) j = firstS m (j : Int) := by simp [firsts, stAt, h]
theorem firsts_snoc (m : Md) (n : Nat) : firsts m (n + 1) = firsts m n ++ [firstS m (n : Int)] := by simp [firsts, List.range_succ]
def startO : List Ev → List Ev → List Ev
 | t, [] => t
 | t, e :: l => startO (insO t e.bare) l
theorem startO_plan (z : Int) : ∀ (l t : List Ev), (∀ i, i < l.length → (evAt l i).t ≤ z) → startO t l = planO z t (bares l)
 | [], t, _ => rfl
 | e :: l, t, h => by
  have h0 := h 0 (by simp)
  rw [evAt_head] at h0
  have hr : ∀ i, i < l.length → (evAt l i).t ≤ z := fun i hi => by
   have := h (i + 1) (by simpa using hi)
   rwa [evAt_cons] at this
  show startO (insO t e.bare) l = planO z (if e.bare.t ≤ z then insO t e.bare else t) (bares l)
  rw [if_pos (show e.bare.t ≤ z from h0)]
  exact startO_plan z l _ hr
theorem startO_length : ∀ (l t : List Ev), (startO t l).length = t.length + l.length
 | [], t => by simp [startO]
 | e :: l, t => by
  have := startO_length l (insO t e.bare)
  rw [insO_length] at this
  simp only [startO, List.length_cons]
  omega
def begC (m : Md) : Co := ⟨startO [] m.e, firsts m m.n.toNat, [], []⟩
def begH (m : Md) : Co := ⟨planH m.z [] (bares m.e), firsts m m.n.toNat, [], []⟩
theorem ok_start {m : Md} (h : m.ok = true) {j : Nat} (hj : j < m.e.length) : (evAt m.e j).ok = true ∧ (evAt m.e j).s = -1 ∧ (evAt m.e j).q = (j : Int) ∧ (evAt m.e j).d < m.n ∧ (evAt m.e j).k < (m.h.length : Int) ∧ (evAt m.e j).t ≤ m.z := by
 simp only [Md.ok, Bool.and_eq_true, Md.okE, List.all_eq_true] at h
 have h1 := h.2 j (by simpa using hj)
 simp only [stB, Bool.and_eq_true, decide_eq_true_eq] at h1
 exact ⟨h1.1, h1.2.1, h1.2.2.1, h1.2.2.2.2.1, h1.2.2.2.2.2.1, h1.2.2.2.2.2.2⟩
theorem ok_inits {m : Md} (h : m.ok = true) {j : Nat} (hj : j < m.i.length) : 0 ≤ intAt m.i j ∧ intAt m.i j ≤ 999 := by
 simp only [Md.ok, Bool.and_eq_true, Md.okI, List.all_eq_true] at h
 have h1 := h.1.1.2 j (by simpa using hj)
 simpa [inB] using h1
theorem ok_len6 {m : Md} (h : m.ok = true) : m.e.length ≤ 6 := by
 simp only [Md.ok, Bool.and_eq_true] at h
 have hd : m.hd := of_decide_eq_true h.1.1.1
 exact hd.2.2.2.2.2.2.2.1
theorem bare_ok {e : Ev} (h : e.ok = true) : e.bare.ok = true := by
 simp only [Ev.ok, okB, decide_eq_true_eq] at h
 obtain ⟨h1, h2, h3, h4, h5, h6, h7, h8, h9, h10, h11, h12, _⟩ := h
 show okB e.t e.s e.q e.d e.k e.v 0 = true
 unfold okB
 exact decide_eq_true ⟨h1, h2, h3, h4, h5, h6, h7, h8, h9, h10, h11, h12, by omega, by omega⟩
theorem beg_alike {m : Md} (h : m.ok = true) : Alike (begH m).td (begC m).td := by
 show Alike (planH m.z [] (bares m.e)) (startO [] m.e)
 rw [startO_plan m.z m.e [] fun i hi => (ok_start h hi).2.2.2.2.2]
 refine plan_alike (d := -1) _ 0 _ _ alike_nil (fun x hx => ?_) fun i hi => ?_
 ·obtain ⟨j, hj, _⟩ := hx
  simp at hj
 ·rw [bares_length] at hi
  rw [bares_at _ _ hi]
  have := ok_start h hi
  exact ⟨this.2.1, by show (evAt m.e i).q = _; rw [this.2.2.1]; omega⟩
theorem beg_inv {m : Md} (h : m.ok = true) : Inv m (begC m) := by
 obtain ⟨_, _, hn0, hn1, _, _, _⟩ := ok_seed h
 have hi := ok_init h
 refine ⟨?_, fun j hj => ?_, fun x hx => ?_, ?_, Nat.le_refl _, Nat.zero_le _⟩
 ·show ((firsts m m.n.toNat).length : Int) = m.n
  rw [firsts_length]; omega
 ·have hj' : j < m.n.toNat := by have := firsts_length m m.n.toNat; have hjj : j < (firsts m m.n.toNat).length := hj; omega
  show (stAt (firsts m m.n.toNat) j).ok = true ∧ (stAt (firsts m m.n.toNat) j).q ≤ 8 * (0 : Int) ∧ (stAt (firsts m m.n.toNat) j).d ≤ 8 * (0 : Int)
  rw [firsts_at _ _ _ hj']
  have := ok_inits h (j := j) (by omega)
  refine ⟨?_, by simp [firstS], by simp [firstS]⟩
  have e0 : intAt (firstS m (j : Int)).r 0 = intAt m.i j := by simp [firstS, intAt]
  have e1 : intAt (firstS m (j : Int)).r 1 = 0 := by simp [firstS, intAt]
  simp only [St.ok, decide_eq_true_eq, e0, e1]
  exact ⟨rfl, this, ⟨by omega, by omega⟩, by simp [firstS], by simp [firstS], by simp [firstS], by simp [firstS]⟩
 ·have hx' : InL x (startO [] m.e) := hx
  rw [startO_plan m.z m.e [] fun i hi => (ok_start h hi).2.2.2.2.2] at hx'
  rcases inL_planO hx' with ⟨j, hj, _⟩ | ⟨⟨j, hj, hje⟩, hz⟩
  ·simp at hj
  ·rw [bares_length] at hj
   rw [bares_at _ _ hj] at hje
   have ho := ok_start h hj
   subst hje
   exact ⟨bare_ok ho.1, rfl, ho.2.2.2.1, ho.2.2.2.2.1, hz, .inl ho.2.1⟩
 ·show (startO [] m.e).length ≤ 6 + 8 * 0
  rw [startO_length]
  have := ok_len6 h
  simp
  omega
def seqR (m : Md) (v : List Int) (z : Int) : Hi := seqG (·.drop 1) (planO m.z) m v z 151 (begC m)
end Go.Proofs.YtbljfphdghfkfaaGreatDoor

/- A row of events of one's own, whose places are written; what turns beside it. -/
namespace Go.Proofs.YtbljfphdghfkfaaGreatDoor
open Go.RowKit
def Row (w : World) (B g cap : Nat) (l : List Ev) : Prop := w.ownsRow B 53 7 (.slice (some ⟨g, 0, none⟩) l.length cap) l.length (cellsL l)
theorem cellsL_set : ∀ (l : List Ev) (i : Nat) (e : Ev), i < l.length →
  (((((((cellsL l).set (i * 7) (.int .i64 e.t)).set (i * 7 + 1) (.int .i64 e.s)).set (i * 7 + 2) (.int .i64 e.q)).set (i * 7 + 3) (.int .i64 e.d)).set (i * 7 + 4) (.int .i64 e.k)).set (i * 7 + 5) (.int .i64 e.v)).set (i * 7 + 6) (.int .i64 e.g) = cellsL (l.set i e)
 | [], _, _, h => by simp at h
 | a :: l, 0, e, _ => by simp [cellsL, Ev.cs]
 | a :: l, i + 1, e, h => by
  have ih := cellsL_set l i e (by simpa using h)
  have hk0 : (i + 1) * 7 = i * 7 + 1 + 1 + 1 + 1 + 1 + 1 + 1 := by omega
  simp only [cellsL, Ev.cs, List.cons_append, List.nil_append, List.set_cons_succ, hk0, ih]
theorem Row.put {w : World} {B g cap : Nat} {l : List Ev} (h : Row w B g cap l) {i : Nat} (hi : i < l.length) (e : Ev) : Row (put7 w g (i * 7) e) B g cap (l.set i e) := by
 have h0 := (World.ownsRow.stored h (i * 7) (.int .i64 e.t)).1
 have h1 := (World.ownsRow.stored h0 (i * 7 + 1) (.int .i64 e.s)).1
 have h2 := (World.ownsRow.stored h1 (i * 7 + 2) (.int .i64 e.q)).1
 have h3 := (World.ownsRow.stored h2 (i * 7 + 3) (.int .i64 e.d)).1
 have h4 := (World.ownsRow.stored h3 (i * 7 + 4) (.int .i64 e.k)).1
 have h5 := (World.ownsRow.stored h4 (i * 7 + 5) (.int .i64 e.v)).1
 have h6 := (World.ownsRow.stored h5 (i * 7 + 6) (.int .i64 e.g)).1
 unfold Row
 rw [List.length_set, ← cellsL_set l i e hi]
 exact h6
theorem Row.lt {w : World} {B g cap : Nat} {l : List Ev} (h : Row w B g cap l) : B ≤ g ∧ g < w.heap.size := World.ownsRow.lt h g rfl
theorem Row.caps {w : World} {B g cap : Nat} {l : List Ev} (h : Row w B g cap l) : l.length ≤ cap ∧ cap ≤ maxLen := by
 obtain ⟨_, ⟨h, _⟩ | ⟨g', cap', cur, e, _, _, h1, h2, _⟩⟩ := h
 ·cases h
 ·cases e; exact ⟨h1, h2⟩
theorem Row.ev {w : World} {B g cap : Nat} {l : List Ev} (h : Row w B g cap l) {i : Nat} (hi : i < l.length) : Ev.In w g (i * 7) (evAt l i) := by
 have hget : ∀ r, r < 7 → w.cell? ⟨g, i * 7 + r, none⟩ = (evAt l i).cs[r]? := fun r hr => by
  rw [World.ownsRow.cellAt h (i * 7 + r) (by omega), cellsL_get l i r hi hr]
 exact ⟨hget 0 (by omega), hget 1 (by omega), hget 2 (by omega), hget 3 (by omega), hget 4 (by omega), hget 5 (by omega), hget 6 (by omega)⟩
theorem Row.frozen {w : World} {B g cap : Nat} {l : List Ev} (h : Row w B g cap l) (j : Nat) : w.frozen? ⟨g, j, none⟩ = false := World.ownsRow.frozenAt h j
theorem Row.same {w w' : World} {B g cap : Nat} {l : List Ev} (h : Row w B g cap l) (hb : w'.heap[g]? = w.heap[g]?) : Row w' B g cap l := by
 obtain ⟨h0, ⟨h, _⟩ | ⟨g', cap', cur, e, hg, hc, h1, h2, h3, h4⟩⟩ := h
 ·cases h
 ·cases e; exact ⟨h0, .inr ⟨g, cap, cur, rfl, hg, hb.trans hc, h1, h2, h3, h4⟩⟩
theorem Row.below {w w' : World} {B B' g cap : Nat} {l : List Ev} (h : Row w B g cap l) (hb : Below B' w w') (hB : g < B') : Row w' B g cap l := h.same (hb.block g hB)
theorem Row.drew {w : World} {B g cap : Nat} {l : List Ev} (h : Row w B g cap l) : Row w.drew B g cap l := World.ownsRow.drew h
theorem Row.pop {w : World} {B g cap : Nat} {l : List Ev} {e : Ev} (h : Row w B g cap (l ++ [e])) : Row w B g cap l := by
 unfold Row at h
 rw [List.length_append, List.length_singleton, cellsL_append] at h
 exact ownsRow_pop (cellsL_length l) h
theorem Turns.put {S : Nat → Prop} {a w : World} (h : Turns S a w) {g : Nat} (hg : S g) (o : Nat) (e : Ev) : Turns S a (put7 w g o e) :=
 ((((((h.setCell (p := ⟨g, o, none⟩) hg _).setCell (p := ⟨g, o + 1, none⟩) hg _).setCell (p := ⟨g, o + 2, none⟩) hg _).setCell (p := ⟨g, o + 3, none⟩) hg _).setCell (p := ⟨g, o + 4, none⟩) hg _).setCell (p := ⟨g, o + 5, none⟩) hg _).setCell (p := ⟨g, o + 6, none⟩) hg _
end Go.Proofs.YtbljfphdghfkfaaGreatDoor

/- A row of states: each one's registers lie in a block of A. -/
namespace Go.Proofs.YtbljfphdghfkfaaGreatDoor
open Go.RowKit
abbrev Pt : Type := Value × St
def cellsT : List Pt → List Value
 | [] => []
 | p :: l => p.1 :: .int .i64 p.2.q :: .int .i64 p.2.d :: cellsT l
def tAt (l : List Pt) (i : Nat) : Pt := l.getD i (.slice none 0 0, ⟨[], 0, 0⟩)
def Pt.cs (p : Pt) : List Value := [p.1, .int .i64 p.2.q, .int .i64 p.2.d]
def stsOf (l : List Pt) : List St := l.map Prod.snd
theorem tAt_set (l : List Pt) (i j : Nat) (p : Pt) (h : i < l.length) : tAt (l.set i p) j = if i = j then p else tAt l j := by
 unfold tAt
 rw [List.getD_eq_getElem?_getD, List.getD_eq_getElem?_getD, List.getElem?_set]
 by_cases e : i = j
 ·subst e; simp [h]
 ·simp [e]
structure Sts (A : Nat → Prop) (w : World) (B : Nat) (v : Value) (l : List Pt) : Prop where
 row : w.ownsRow B 96 3 v l.length (cellsT l)
 reg : ∀ j, j < l.length → RowF A w (tAt l j).1 (tAt l j).2.r.length 1 (intCells (tAt l j).2.r)
section
variable {A A' : Nat → Prop} {w w' : World} {B : Nat} {v : Value} {l : List Pt}
theorem owns_same {T : TypeId} {c n : Nat} {cs : List Value} (h : w.ownsRow B T c v n cs) (hb : ∀ k, v.ownBlock = some k → w'.heap[k]? = w.heap[k]?) : w'.ownsRow B T c v n cs := by
 obtain ⟨h0, ⟨e, h1⟩ | ⟨g, cap, cur, rfl, hg, hc, h1⟩⟩ := h
 ·exact ⟨h0, .inl ⟨e, h1⟩⟩
 ·exact ⟨h0, .inr ⟨g, cap, cur, rfl, hg, (hb g rfl).trans hc, h1⟩⟩
theorem owns_turns {S : Nat → Prop} {T : TypeId} {c n : Nat} {cs : List Value} (h : w.ownsRow B T c v n cs) (ht : Turns S w w') (hS : ∀ k, v.ownBlock = some k → ¬ S k) : w'.ownsRow B T c v n cs :=
 owns_same h fun k hk => ht.block k (World.ownsRow.lt h k hk).2 (hS k hk)
abbrev put3o (w : World) (P o : Nat) (v0 v1 v2 : Value) : World := ((w.setCell ⟨P, o, none⟩ v0).setCell ⟨P, o + 1, none⟩ v1).setCell ⟨P, o + 2, none⟩ v2
theorem put3o_turns (w : World) (P o : Nat) (v0 v1 v2 : Value) : Turns (fun b => b = P) w (put3o w P o v0 v1 v2) :=
 ((put1_turns w P o v0).trans (put1_turns _ P (o + 1) v1)).trans (put1_turns _ P (o + 2) v2)
end
end Go.Proofs.YtbljfphdghfkfaaGreatDoor

/- A region that draws its order, whose operations only read and whose callees lay blocks of their own, is walked once, in the order of the text. -/
namespace Go.Proofs.YtbljfphdghfkfaaGreatDoor
open Go.RowKit
instance (W : World) : Nonempty (Beyond W) := ⟨⟨W, Below.refl _ _⟩⟩
end Go.Proofs.YtbljfphdghfkfaaGreatDoor

/- Vectors: the program's copyOf and numbers, and numberOf. -/
namespace Go.Proofs.YtbljfphdghfkfaaGreatDoor
open Go.RowKit
theorem add_none (b off n : Nat) : (⟨b, off, none⟩ : Addr).add n = ⟨b, off + n, none⟩ := by
 unfold Addr.add
 split <;> simp_all
end Go.Proofs.YtbljfphdghfkfaaGreatDoor

/- The cursor over the bytes of a draw. -/
namespace Go.Proofs.YtbljfphdghfkfaaGreatDoor
open Go.RowKit
def CodeIn (w : World) (B : Nat) (a : Option Addr) (n : Nat) : Prop := n = 0 ∨ ∃ b off, a = some ⟨b, off, none⟩ ∧ b < B ∧ ∀ i, i < n → ∃ z : Nat, z < 256 ∧ w.cell? ⟨b, off + i, none⟩ = some (.int .u8 (z : Int))
theorem CodeIn.below {w w' : World} {B B' : Nat} {a : Option Addr} {n : Nat} (h : CodeIn w B a n) (hb : Below B' w w') (hB : B ≤ B') : CodeIn w' B a n := by
 rcases h with h | ⟨b, off, h1, h2, h3⟩
 ·exact .inl h
 ·exact .inr ⟨b, off, h1, h2, fun i hi => by
   obtain ⟨z, hz, hc⟩ := h3 i hi
   exact ⟨z, hz, (hb.cell (p := ⟨b, off + i, none⟩) (by show b < B'; omega)).trans hc⟩⟩
theorem CodeIn.mono {w : World} {B B' : Nat} {a : Option Addr} {n : Nat} (h : CodeIn w B a n) (hB : B ≤ B') : CodeIn w B' a n := by
 rcases h with h | ⟨b, off, h1, h2, h3⟩
 ·exact .inl h
 ·exact .inr ⟨b, off, h1, by omega, h3⟩
structure CurAt (w : World) (c : Nat) (a : Option Addr) (n cap i : Nat) (h : Int) : Prop where
 c0 : w.cell? ⟨c, 0, none⟩ = some (.slice a n cap)
 c1 : w.cell? ⟨c, 1, none⟩ = some (.int .i64 (i : Int))
 c2 : w.cell? ⟨c, 2, none⟩ = some (.int .i64 h)
 fz : ∀ o, w.frozen? ⟨c, o, none⟩ = false
 lt : c < w.heap.size
 le : i ≤ n
 len : n ≤ 281474976710656
 code : CodeIn w c a n
def Cur (w : World) (c : Nat) : Prop := ∃ a n cap i h, CurAt w c a n cap i h
theorem CurAt.below {w w' : World} {B c : Nat} {a : Option Addr} {n cap i : Nat} {h : Int} (H : CurAt w c a n cap i h) (hb : Below B w w') (hB : c < B) : CurAt w' c a n cap i h :=
 ⟨(hb.cell hB).trans H.c0, (hb.cell hB).trans H.c1, (hb.cell hB).trans H.c2, fun o => (hb.frozen (p := ⟨c, o, none⟩) hB).trans (H.fz o), Nat.lt_of_lt_of_le H.lt hb.size, H.le, H.len, H.code.below hb (by omega)⟩
theorem Cur.below {w w' : World} {B c : Nat} (H : Cur w c) (hb : Below B w w') (hB : c < B) : Cur w' c := by
 obtain ⟨a, n, cap, i, h, H⟩ := H
 exact ⟨a, n, cap, i, h, H.below hb hB⟩
theorem Cur.lt {w : World} {c : Nat} (H : Cur w c) : c < w.heap.size := by
 obtain ⟨a, n, cap, i, h, H⟩ := H
 exact H.lt
theorem i64_and255 (n : Int) : bits .and .i64 n 255 = n % 256 := by
 have h127 : (BitVec.ofInt 64 255).toNat = 2 ^ 8 - 1 := by decide
 have key : (BitVec.ofInt 64 n &&& BitVec.ofInt 64 255).toNat = (n % ((2 ^ 64 : Nat) : Int)).toNat % 2 ^ 8 := by
  rw [BitVec.toNat_and, BitVec.toNat_ofInt, h127, Nat.and_two_pow_sub_one_eq_mod]
 show IntKind.i64.wrap ((BitVec.ofInt 64 n &&& BitVec.ofInt 64 255).toNat : Nat) = n % 256
 rw [key, IntKind.wrap_i64]
 omega
theorem CurAt.drew {w : World} {c : Nat} {a : Option Addr} {n cap i : Nat} {h : Int} (H : CurAt w c a n cap i h) : CurAt w.drew c a n cap i h :=
 H.below (B := w.heap.size) (Below.refl _ w).drew H.lt
theorem CurAt.hash {w : World} {c : Nat} {a : Option Addr} {n cap i : Nat} {h : Int} (H : CurAt w c a n cap i h) (h' : Int) : CurAt (w.setCell ⟨c, 2, none⟩ (.int .i64 h')) c a n cap i h' := by
 have hn : ∀ i j : Nat, i ≠ j → (⟨c, i, none⟩ : Addr) ≠ ⟨c, j, none⟩ := fun i j hij e => hij (by injection e)
 have hb : Below c w (w.setCell ⟨c, 2, none⟩ (.int .i64 h')) := (Below.refl c w).setCell (by simp) _
 exact ⟨(World.cell?_setCell_other _ _ _ _ (hn _ _ (by omega))).trans H.c0, (World.cell?_setCell_other _ _ _ _ (hn _ _ (by omega))).trans H.c1, World.cell?_setCell_same _ _ _ H.c2,
  fun o => by simp [H.fz], by simpa [World.setCell] using H.lt, H.le, H.len, H.code.below hb (Nat.le_refl _)⟩
theorem CurAt.next {w : World} {c : Nat} {a : Option Addr} {n cap i : Nat} {h : Int} (H : CurAt w c a n cap i h) (j : Nat) (hj : j ≤ n) : CurAt (w.setCell ⟨c, 1, none⟩ (.int .i64 (j : Int))) c a n cap j h := by
 have hn : ∀ i j : Nat, i ≠ j → (⟨c, i, none⟩ : Addr) ≠ ⟨c, j, none⟩ := fun i j hij e => hij (by injection e)
 have hb : Below c w (w.setCell ⟨c, 1, none⟩ (.int .i64 (j : Int))) := (Below.refl c w).setCell (by simp) _
 exact ⟨(World.cell?_setCell_other _ _ _ _ (hn _ _ (by omega))).trans H.c0, World.cell?_setCell_same _ _ _ H.c1, (World.cell?_setCell_other _ _ _ _ (hn _ _ (by omega))).trans H.c2,
  fun o => by simp [H.fz], by simpa [World.setCell] using H.lt, hj, H.len, H.code.below hb (Nat.le_refl _)⟩
set_option maxHeartbeats 2000000 in
theorem byte_any (c : Nat) (w : World) (H : Cur w c) :
  Calls Tryz.prog 48 #[.pointer (some ⟨c, 0, none⟩)] w fun e w' => ∃ x : Int, e = .returned (.int .i64 x) ∧ 0 ≤ x ∧ x ≤ 255 ∧ Cur w' c ∧ Turns (fun k => k = c) w w' := by
 obtain ⟨a, n, cap, i, h, H⟩ := H
 have c0 := H.c0
 have c1 := H.c1
 have c2 := H.c2
 have hf := H.fz
 have hlen := H.len
 have hle := H.le
 have hand : ∀ m : Int, bits .and .i64 m 255 = m % 256 := i64_and255
 go_enter Tryz.func48, Tryz.ntmps48
 go_wp2_with fail
 go_region
 generalize wrap64 (wrap64 (h * 6364136223846793005) + 1442695040888963407) = h1
 generalize hx : bits BinOp.xor IntKind.i64 (h1 / 8589934592) (h1 / 35184372088832) % 256 = x0
 have hx0 : 0 ≤ x0 := by omega
 have hx1 : x0 ≤ 255 := by omega
 have H1 := (H.hash h1).drew
 have T1 : Turns (fun k => k = c) w (w.setCell ⟨c, 2, none⟩ (.int .i64 h1)).drew := ((Turns.refl (fun k => k = c) w).setCell (p := ⟨c, 2, none⟩) rfl _).drew
 generalize (w.setCell ⟨c, 2, none⟩ (.int .i64 h1)).drew = w1 at H1 T1 ⊢
 have HT1 : Hid (Turns (fun k => k = c) w w1) := T1
 clear c0 c1 c2 hf hx T1 H
 have d0 := H1.c0
 have d1 := H1.c1
 have d2 := H1.c2
 have df := H1.fz
 have HC1 : Hid (CurAt w1 c a n cap i h1) := H1
 by_cases hi : i < n
 ·obtain ⟨b, off, rfl, hb, hz⟩ := H1.code.resolve_left (by omega)
  obtain ⟨z, hz1, hz2⟩ := hz i hi
  have hbc : ¬ b = c := by omega
  have hlt : (i : Int) < (n : Int) := by omega
  have hidx : (0 : Int) ≤ (i : Int) ∧ (i : Int) < (n : Int) := by omega
  have q0 : IntKind.i64.wrap (x0 + (z : Int)) = x0 + (z : Int) := by rw [IntKind.wrap_i64]; omega
  clear hz H1
  go_wp2_with fail
  go_region
  go_wp2_with fail
  go_region
  go_wp2
  go_ret
  refine ⟨_, rfl, by omega, by omega, ⟨_, _, _, _, _, (HC1.out.drew.drew.next (i + 1) (by omega))⟩, ?_⟩
  exact (HT1.out.drew.drew).setCell (p := ⟨c, 1, none⟩) rfl _
 ·have hlt : ¬ (i : Int) < (n : Int) := by omega
  clear H1
  go_wp2_with fail
  go_region
  go_wp2
  go_ret
  exact ⟨_, rfl, hx0, hx1, ⟨_, _, _, _, _, HC1.out.drew⟩, HT1.out.drew⟩
end Go.Proofs.YtbljfphdghfkfaaGreatDoor

/- What is drawn out of a cursor: numbers below one, one of a list; a new cursor. -/
namespace Go.Proofs.YtbljfphdghfkfaaGreatDoor
open Go.RowKit
theorem i64_mask30 (n : Int) : bits .and .i64 n 1073741823 = n % 1073741824 := by
 have h127 : (BitVec.ofInt 64 1073741823).toNat = 2 ^ 30 - 1 := by decide
 have key : (BitVec.ofInt 64 n &&& BitVec.ofInt 64 1073741823).toNat = (n % ((2 ^ 64 : Nat) : Int)).toNat % 2 ^ 30 := by
  rw [BitVec.toNat_and, BitVec.toNat_ofInt, h127, Nat.and_two_pow_sub_one_eq_mod]
 show IntKind.i64.wrap ((BitVec.ofInt 64 n &&& BitVec.ofInt 64 1073741823).toNat : Nat) = n % 1073741824
 rw [key, IntKind.wrap_i64]
 omega
theorem emod_in {x m : Int} (hm : 0 < m) : 0 ≤ x % m ∧ x % m < m := ⟨Int.emod_nonneg _ (by omega), Int.emod_lt_of_pos _ hm⟩
set_option maxHeartbeats 2000000 in
theorem below_any (c : Nat) (n : Int) (w : World) (H : Cur w c) :
  Calls Tryz.prog 47 #[.pointer (some ⟨c, 0, none⟩), .int .i64 n] w fun e w' => ∃ x : Int, e = .returned (.int .i64 x) ∧ 0 ≤ x ∧ (0 < n → x < n) ∧ Cur w' c ∧ Turns (fun k => k = c) w w' := by
 have HC : Hid (Cur w c) := H
 clear H
 by_cases h0 : n ≤ 0
 ·go_enter Tryz.func47, Tryz.ntmps47
  go_wp2_with fail
  go_ret
  exact ⟨0, rfl, by omega, by omega, HC.out, Turns.refl _ _⟩
 ·have h0' : ¬ n ≤ 0 := h0
  have hn0 : ¬ n = 0 := by omega
  by_cases h1 : n ≤ 256
  ·go_enter Tryz.func47, Tryz.ntmps47
   go_wp2_with (go_at_call 48; refine (byte_any c _ HC.out).mono ?_; rintro e w1 ⟨x, rfl, hx0, hx1, hC1, hT1⟩)
   go_ret
   exact ⟨_, rfl, (by first | exact (emod_in (by omega)).1 | exact (tmod_in hx0 (by omega)).1), fun hn => (by first | exact (emod_in (by omega)).2 | exact (tmod_in hx0 (by omega)).2), hC1, hT1⟩
  ·go_enter Tryz.func47, Tryz.ntmps47
   go_wp2_with fail
   refine (byte_any c _ HC.out).mono ?_
   rintro e w1 ⟨x, rfl, hx0, hx1, hC1, hT1⟩
   have HC1 : Hid (Cur w1 c) := hC1
   have HT1 : Hid (Turns (fun k => k = c) w w1) := hT1
   clear hC1 hT1
   go_wp2_with fail
   refine (byte_any c _ HC1.out).mono ?_
   rintro e w2 ⟨y, rfl, hy0, hy1, hC2, hT2⟩
   have HC2 : Hid (Cur w2 c) := hC2
   have HT2 : Hid (Turns (fun k => k = c) w w2) := HT1.out.trans hT2
   clear hC2 hT2
   go_wp2_with fail
   refine (byte_any c _ HC2.out).mono ?_
   rintro e w3 ⟨z, rfl, hz0, hz1, hC3, hT3⟩
   have HC3 : Hid (Cur w3 c) := hC3
   have HT3 : Hid (Turns (fun k => k = c) w w3) := HT2.out.trans hT3
   clear hC3 hT3
   go_wp2_with fail
   refine (byte_any c _ HC3.out).mono ?_
   rintro e w4 ⟨t, rfl, ht0, ht1, hC4, hT4⟩
   have HC4 : Hid (Cur w4 c) := hC4
   have HT4 : Hid (Turns (fun k => k = c) w w4) := HT3.out.trans hT4
   clear hC4 hT4
   go_wp2
   go_ret
   exact ⟨_, rfl, (by first | exact (emod_in (by omega)).1 | exact (tmod_in (by omega) (by omega)).1), fun hn => (by first | exact (emod_in (by omega)).2 | exact (tmod_in (by omega) (by omega)).2), HC4.out, HT4.out⟩
def ListAt (w : World) (g m : Nat) (P : Int → Prop) : Prop := g < w.heap.size ∧ ∀ j, j < m → ∃ y : Int, P y ∧ w.cell? ⟨g, j, none⟩ = some (.int .i64 y)
theorem ListAt.turns {w w' : World} {S : Nat → Prop} {g m : Nat} {P : Int → Prop} (h : ListAt w g m P) (ht : Turns S w w') (hS : ¬ S g) : ListAt w' g m P :=
 ⟨Nat.lt_of_lt_of_le h.1 ht.size, fun j hj => by obtain ⟨y, hy, hc⟩ := h.2 j hj; exact ⟨y, hy, (ht.cell h.1 hS).trans hc⟩⟩
set_option maxHeartbeats 2000000 in
theorem pick_any (c g m : Nat) (P : Int → Prop) (w : World) (hm : 0 < m) (hm' : m ≤ 1000) (hg : ¬ g = c) (H : Cur w c) (L : ListAt w g m P) :
  Calls Tryz.prog 51 #[.pointer (some ⟨c, 0, none⟩), .slice (some ⟨g, 0, none⟩) m m] w fun e w' => ∃ y : Int, e = .returned (.int .i64 y) ∧ P y ∧ Cur w' c ∧ Turns (fun k => k = c) w w' := by
 have HC : Hid (Cur w c) := H
 have HL : Hid (ListAt w g m P) := L
 clear H L
 go_enter Tryz.func51, Tryz.ntmps51
 go_wp2_with fail
 refine (below_any c _ _ HC.out).mono ?_
 rintro e w1 ⟨x, rfl, hx0, hx1, hC1, hT1⟩
 have hx2 := hx1 (by omega)
 obtain ⟨k, rfl⟩ : ∃ k : Nat, x = (k : Int) := ⟨x.toNat, by omega⟩
 have hk : k < m := by omega
 have hidx : (0 : Int) ≤ (k : Int) ∧ (k : Int) < (m : Int) := by omega
 obtain ⟨y, hy, hc⟩ := (HL.out.turns hT1 hg).2 k hk
 have HY : Hid (P y) := hy
 have HC1 : Hid (Cur w1 c) := hC1
 have HT1 : Hid (Turns (fun k => k = c) w w1) := hT1
 clear hx1 hx2 hC1 hT1 hy
 go_wp2
 go_ret
 exact ⟨y, rfl, HY.out, HC1.out, HT1.out⟩
set_option maxHeartbeats 2000000 in
theorem new_any (a : Option Addr) (n cap : Nat) (w : World) (hn : n ≤ 281474976710656) (hC : CodeIn w w.heap.size a n) :
  Calls Tryz.prog 25 #[.slice a n cap] w fun e w' => ∃ c, e = .returned (.pointer (some ⟨c, 0, none⟩)) ∧ w.heap.size ≤ c ∧ Cur w' c ∧ Below w.heap.size w w' := by
 have HC : Hid (CodeIn w w.heap.size a n) := hC
 clear hC
 have hand : ∀ m : Int, bits .and .i64 m 1073741823 = m % 1073741824 := i64_mask30
 go_enter Tryz.func25, Tryz.ntmps25
 go_wp2
 go_loop [3, 4] (fun h i => ∃ (k : Nat) (x : Int), k ≤ n ∧ i = .int .i64 k ∧ h = .int .i64 x) (fun _ i => n - (intOf i).toNat)
 case atStart => exact ⟨0, _, Nat.zero_le _, rfl, rfl⟩
 case round =>
  obtain ⟨k, x, hk, rfl, rfl⟩ := hrel
  by_cases hlt : k < n
  ·by_cases h4 : k < 4000
   ·obtain ⟨b, off, rfl, hb, hz⟩ := HC.out.resolve_left (by omega)
    obtain ⟨z, hz1, hz2⟩ := hz k hlt
    have a1 : (k : Int) < (n : Int) := by omega
    have a2 : (k : Int) < 4000 := by omega
    have hidx : (0 : Int) ≤ (k : Int) ∧ (k : Int) < (n : Int) := by omega
    clear hz
    go_wp2
    go_round
    case rel => exact ⟨k + 1, _, by omega, by go_num, rfl⟩
    case measure => simp [intOf]; omega
   ·have a1 : (k : Int) < (n : Int) := by omega
    have a2 : ¬ (k : Int) < 4000 := by omega
    go_wp2
    go_ret
    refine ⟨_, rfl, Nat.le_refl _, ⟨a, n, cap, 0, x, ?_⟩, (Below.refl _ w).alloc (Nat.le_refl _) _⟩
    exact ⟨by simp, by simp, by simp, fun o => by simp, by simp, Nat.zero_le _, hn, HC.out.below ((Below.refl _ w).alloc (Nat.le_refl _) _) (Nat.le_refl _)⟩
  ·have a1 : ¬ (k : Int) < (n : Int) := by omega
   go_wp2
   go_ret
   refine ⟨_, rfl, Nat.le_refl _, ⟨a, n, cap, 0, x, ?_⟩, (Below.refl _ w).alloc (Nat.le_refl _) _⟩
   exact ⟨by simp, by simp, by simp, fun o => by simp, by simp, Nat.zero_le _, hn, HC.out.below ((Below.refl _ w).alloc (Nat.le_refl _) _) (Nat.le_refl _)⟩
end Go.Proofs.YtbljfphdghfkfaaGreatDoor

/- Vectors that are drawn. -/
namespace Go.Proofs.YtbljfphdghfkfaaGreatDoor
open Go.RowKit
theorem Cur.alloc {w : World} {c : Nat} (H : Cur w c) (o : Obj) : Cur (w.alloc o) c := H.below ((Below.refl _ w).alloc (Nat.le_refl _) o) H.lt
theorem Cur.set {w : World} {c : Nat} (H : Cur w c) {p : Addr} (hp : c < p.block) (v : Value) : Cur (w.setCell p v) c := H.below ((Below.refl (c + 1) w).setCell (by omega) v) (by omega)
set_option maxHeartbeats 2000000 in
theorem once_any (c : Nat) (n : Int) (w : World) (H : Cur w c) :
  Calls Tryz.prog 46 #[.pointer (some ⟨c, 0, none⟩), .int .i64 n] w fun e w' => ∃ x : Bool, e = .returned (.bool x) ∧ Cur w' c ∧ Turns (fun k => k = c) w w' := by
 have HC : Hid (Cur w c) := H
 clear H
 go_enter Tryz.func46, Tryz.ntmps46
 go_wp2_with fail
 refine (below_any c _ _ HC.out).mono ?_
 rintro e w1 ⟨x, rfl, hx0, _, hC1, hT1⟩
 go_wp2
 go_ret
 exact ⟨_, rfl, hC1, hT1⟩
end Go.Proofs.YtbljfphdghfkfaaGreatDoor

/- A model that is being made: its struct in a block, its lists in rows of their own. -/
namespace Go.Proofs.YtbljfphdghfkfaaGreatDoor
open Go.RowKit
theorem grown_turns {w w' : World} {row : Option Nat} (h : w.grownBy w' row) : Turns (fun k => row = some k) w w' := ⟨h.os, h.tape, h.output, h.size, fun k hk hS => h.block k hk (fun e => hS e.symm)⟩
theorem sza (w : World) (o : Obj) : w.heap.size ≤ (w.alloc o).heap.size := by simp
theorem owns_ne {B : Nat} {e : TypeId} {size n : Nat} {w : World} {v : Value} {xs : List Value} (h : w.ownsRow B e size v n xs) {P : Nat} {T : TypeId} {vs : Array Value} (hb : Bk w P T vs) (hT : T ≠ e) : ¬ v.ownBlock = some P := by
 intro hE
 obtain ⟨_, ⟨rfl, _⟩ | ⟨g, cap, cur, rfl, _, hc, _⟩⟩ := h
 ·simp [Value.ownBlock] at hE
 ·simp [Value.ownBlock] at hE
  subst hE
  have hb' : w.heap[g]? = some (.cells vs T) := hb
  rw [hb'] at hc
  simp at hc
  exact hT hc.2
theorem owns_lt {B : Nat} {e : TypeId} {size n : Nat} {w : World} {v : Value} {xs : List Value} (h : w.ownsRow B e size v n xs) {k : Nat} (hk : v.ownBlock = some k) : k < w.heap.size := by
 obtain ⟨_, ⟨rfl, _⟩ | ⟨g, cap, cur, rfl, _, hc, _⟩⟩ := h
 ·simp [Value.ownBlock] at hk
 ·simp [Value.ownBlock] at hk
  subst hk
  exact (Array.getElem?_eq_some_iff.1 hc).1
theorem owns_kept {B C : Nat} {e T : TypeId} {size n : Nat} {w w' : World} {v : Value} {xs : List Value} {vs : Array Value} (h : w.ownsRow B e size v n xs) (hb : Bk w C T vs) (hT : T ≠ e) (ht : Turns (fun k => k = C) w w') : w'.ownsRow B e size v n xs :=
 owns_turns h ht (fun _ hk e => owns_ne h hb hT (e ▸ hk))
theorem Turns.grownNew {S : Nat → Prop} {a w w' : World} {row : Option Nat} (h : Turns S a w) (hg : w.grownBy w' row) (hr : ∀ k, row = some k → a.heap.size ≤ k) : Turns S a w' :=
 ⟨hg.os.trans h.os, hg.tape.trans h.tape, hg.output.trans h.output, Nat.le_trans h.size hg.size, fun k hk hS => (hg.block k (Nat.lt_of_lt_of_le hk h.size) (fun e => by have := hr k e.symm; omega)).trans (h.block k hk hS)⟩
theorem Turns.setNew {S : Nat → Prop} {a w : World} (h : Turns S a w) {b : Nat} (hb : a.heap.size ≤ b) (o : Nat) (u : Value) : Turns S a (w.setCell ⟨b, o, none⟩ u) :=
 ⟨h.os, h.tape, h.output, Nat.le_trans h.size (by simp [World.setCell]), fun k hk hS => (Below.heap_setCell _ _ _ _ (by show k ≠ b; omega)).trans (h.block k hk hS)⟩
theorem at_newO (w : World) (e : O) : ∀ j u, (cellsO [e])[j]? = some u → (w.alloc (.cells #[.int .i64 e.c, .int .i64 e.a, .int .i64 e.b, .int .i64 e.k] 39)).cell? ((⟨w.heap.size, 0, none⟩ : Addr).add j) = some u := by
 intro j u hu
 rw [Addr.add_lit, Nat.zero_add]
 exact (Bk.new w 39 #[.int .i64 e.c, .int .i64 e.a, .int .i64 e.b, .int .i64 e.k]).cell (by simpa [cellsO, O.cs] using hu)
def uAt (us : List Value) (i : Nat) : Value := us.getD i (.slice none 0 0)
def HsO (B : Nat) (w : World) (us : List Value) (hs : List (List O)) : Prop :=
 us.length = hs.length ∧ (∀ i, i < hs.length → w.ownsRow B 39 4 (uAt us i) (hAt hs i).length (cellsO (hAt hs i))) ∧ ∀ i j k, i < j → j < hs.length → (uAt us i).ownBlock = some k → ¬ (uAt us j).ownBlock = some k
theorem HsO.nil (B : Nat) (w : World) : HsO B w [] [] := ⟨rfl, fun i hi => by simp at hi, fun i j k _ hj => by simp at hj⟩
theorem HsO.turns {S : Nat → Prop} {B : Nat} {w w' : World} {us : List Value} {hs : List (List O)} (h : HsO B w us hs) (ht : Turns S w w') (hS : ∀ i k, i < hs.length → (uAt us i).ownBlock = some k → ¬ S k) : HsO B w' us hs :=
 ⟨h.1, fun i hi => owns_turns (h.2.1 i hi) ht (fun k hk => hS i k hi hk), h.2.2⟩
theorem HsO.below {B : Nat} {w w' : World} {us : List Value} {hs : List (List O)} (h : HsO B w us hs) (hb : Below w.heap.size w w') : HsO B w' us hs :=
 h.turns (S := fun _ => False) (Turns.of_below hb) (fun _ _ _ _ e => e)
theorem HsO.alloc {B : Nat} {w : World} {us : List Value} {hs : List (List O)} (h : HsO B w us hs) (o : Obj) : HsO B (w.alloc o) us hs := h.below ((Below.refl _ w).alloc (Nat.le_refl _) o)
theorem uAt_left {us : List Value} {u : Value} {i : Nat} (h : i < us.length) : uAt (us ++ [u]) i = uAt us i := by
 unfold uAt; simp [List.getElem?_append_left h]
theorem uAt_last (us : List Value) (u : Value) : uAt (us ++ [u]) us.length = u := by unfold uAt; simp
theorem hAt_left {hs : List (List O)} {r : List O} {i : Nat} (h : i < hs.length) : hAt (hs ++ [r]) i = hAt hs i := by
 unfold hAt; simp [List.getElem?_append_left h]
theorem hAt_last (hs : List (List O)) (r : List O) : hAt (hs ++ [r]) hs.length = r := by unfold hAt; simp
theorem owns_mono {B B' : Nat} {e : TypeId} {size n : Nat} {w : World} {v : Value} {xs : List Value} (h : w.ownsRow B e size v n xs) (hB : B' ≤ B) : w.ownsRow B' e size v n xs := by
 obtain ⟨h0, h1 | ⟨g, cap, cur, e, hg, h2⟩⟩ := h
 ·exact ⟨h0, .inl h1⟩
 ·exact ⟨h0, .inr ⟨g, cap, cur, e, Nat.le_trans hB hg, h2⟩⟩
theorem HsO.snoc {B B' : Nat} {w : World} {us : List Value} {hs : List (List O)} {u : Value} {r : List O} (h : HsO B w us hs) (hr : w.ownsRow B' 39 4 u r.length (cellsO r)) (hB : B ≤ B') (hold : ∀ i k, i < hs.length → (uAt us i).ownBlock = some k → k < B') : HsO B w (us ++ [u]) (hs ++ [r]) := by
 obtain ⟨h0, h1, h2⟩ := h
 refine ⟨by simp [h0], fun i hi => ?_, fun i j k hij hj hk => ?_⟩
 ·by_cases e : i < hs.length
  ·rw [uAt_left (by omega), hAt_left e]; exact h1 i e
  ·have : i = hs.length := by simp at hi; omega
   subst this
   rw [hAt_last, ← h0, uAt_last]
   exact owns_mono hr hB
 ·by_cases e : j < hs.length
  ·rw [uAt_left (by omega)] at hk ⊢
   exact h2 i j k hij e hk
  ·have : j = hs.length := by simp at hj; omega
   subst this
   rw [uAt_left (by omega)] at hk
   rw [← h0, uAt_last]
   intro e2
   have := hold i k hij hk
   have := row_ge hr e2
   omega
theorem HsO.old {B : Nat} {w : World} {us : List Value} {hs : List (List O)} (h : HsO B w us hs) : ∀ i k, i < hs.length → (uAt us i).ownBlock = some k → k < w.heap.size := fun i _ hi hk => owns_lt (h.2.1 i hi) hk
theorem HsO.isH {B B' : Nat} {w : World} {us : List Value} {hs : List (List O)} {v : Value} (h : HsO B w us hs) (hv : w.ownsRow B' 37 1 v hs.length us) : IsH w v hs := by
 have hF := RowF.of_owns (by rw [h.1]; omega) hv
 obtain ⟨hl, a, cap, rfl, h1, h2, h3⟩ := hF
 refine ⟨a, cap, rfl, h1, h2, h3.imp List.eq_nil_of_length_eq_zero ?_⟩
 rintro ⟨g, rfl, _, hg, hc⟩
 refine ⟨g, 0, rfl, hg, fun i hi => ⟨uAt us i, ?_, (RowF.of_owns (cellsO_length _) (h.2.1 i hi)).isO⟩⟩
 rw [Nat.zero_add, (hc i (by omega)).1]
 unfold uAt
 rw [List.getD_eq_getElem?_getD, List.getElem?_eq_getElem (by rw [h.1]; exact hi)]
 rfl
theorem infoSS : (Tryz.prog.info? 37).map (fun i => (i.zero, i.size, i.bytes)) = some (some (.slice none 0 0), 1, 24) := by kernel_rfl
theorem infoEv : (Tryz.prog.info? 53).map (fun i => (i.zero, i.size, i.bytes)) = some (some (.agg #[.int .i64 0, .int .i64 0, .int .i64 0, .int .i64 0, .int .i64 0, .int .i64 0, .int .i64 0]), 7, 56) := by kernel_rfl
theorem at_newI (w : World) (z : Int) : ∀ j u, (intCells [z])[j]? = some u → (w.alloc (.cells #[.int .i64 z] 3)).cell? ((⟨w.heap.size, 0, none⟩ : Addr).add j) = some u := by
 intro j u hu
 rw [Addr.add_lit, Nat.zero_add]
 exact (Bk.new w 3 #[.int .i64 z]).cell (by simpa [intCells] using hu)
theorem at_newS (w : World) (v : Value) (T : TypeId) : ∀ j u, [v][j]? = some u → (w.alloc (.cells #[v] T)).cell? ((⟨w.heap.size, 0, none⟩ : Addr).add j) = some u := by
 intro j u hu
 rw [Addr.add_lit, Nat.zero_add]
 exact (Bk.new w T #[v]).cell (by simpa using hu)
theorem at_newE (w : World) (e : Ev) : ∀ j u, (cellsL [e])[j]? = some u → (w.alloc (.cells #[.int .i64 e.t, .int .i64 e.s, .int .i64 e.q, .int .i64 e.d, .int .i64 e.k, .int .i64 e.v, .int .i64 e.g] 53)).cell? ((⟨w.heap.size, 0, none⟩ : Addr).add j) = some u := by
 intro j u hu
 rw [Addr.add_lit, Nat.zero_add]
 exact (Bk.new w 53 #[.int .i64 e.t, .int .i64 e.s, .int .i64 e.q, .int .i64 e.d, .int .i64 e.k, .int .i64 e.v, .int .i64 e.g]).cell (by simpa [cellsL, Ev.cs] using hu)
theorem intCells_ones (l : List Int) : ∀ u ∈ intCells l, u.oneCell' = true := by
 intro u hu
 obtain ⟨z, _, rfl⟩ := List.mem_map.1 hu
 rfl
theorem slice_ones (a : Option Addr) (n c : Nat) : ∀ u ∈ [Value.slice a n c], u.oneCell' = true := by
 intro u hu
 simp at hu
 subst hu
 rfl
theorem owns_slice {B : Nat} {e : TypeId} {size n : Nat} {w : World} {v : Value} {xs : List Value} (h : w.ownsRow B e size v n xs) : ∃ a cap, v = .slice a n cap := by
 obtain ⟨_, ⟨rfl, h0⟩ | ⟨g, cap, cur, rfl, _⟩⟩ := h
 ·exact ⟨none, 0, by rw [h0]⟩
 ·exact ⟨_, _, rfl⟩
abbrev Z6 : Array Value := #[.int .i64 0, .int .i64 0, .slice none 0 0, .slice none 0 0, .slice none 0 0, .int .i64 0]
structure MB (w : World) (B Rb Mb : Nat) (m : Md) (vi vh vs : Value) (us : List Value) : Prop where
 ne : Rb ≠ Mb
 r : Bk w Rb 27 Z6
 b : Bk w Mb 27 #[.int .i64 m.n, .int .i64 m.s, vi, vh, vs, .int .i64 m.z]
 i : w.ownsRow B 3 1 vi m.i.length (intCells m.i)
 h : w.ownsRow B 37 1 vh m.h.length us
 u : HsO B w us m.h
 e : w.ownsRow B 53 7 vs m.e.length (cellsL m.e)
theorem MB.turns {S : Nat → Prop} {w w' : World} {B Rb Mb : Nat} {m : Md} {vi vh vs : Value} {us : List Value} (g : MB w B Rb Mb m vi vh vs us) (ht : Turns S w w') (h1 : ¬ S Rb) (h2 : ¬ S Mb) (h3 : ∀ k, vi.ownBlock = some k → ¬ S k) (h4 : ∀ k, vh.ownBlock = some k → ¬ S k) (h5 : ∀ i k, i < m.h.length → (uAt us i).ownBlock = some k → ¬ S k) (h6 : ∀ k, vs.ownBlock = some k → ¬ S k) : MB w' B Rb Mb m vi vh vs us :=
 ⟨g.ne, g.r.turns ht h1, g.b.turns ht h2, owns_turns g.i ht h3, owns_turns g.h ht h4, g.u.turns ht h5, owns_turns g.e ht h6⟩
theorem Bk.neq {w : World} {P Q : Nat} {T U : TypeId} {vs us : Array Value} (h : Bk w P T vs) (k : Bk w Q U us) (hT : T ≠ U) : P ≠ Q := by
 intro e
 subst e
 have h' : w.heap[P]? = some (.cells vs T) := h
 have k' : w.heap[P]? = some (.cells us U) := k
 rw [h'] at k'
 simp at k'
 exact hT k'.2
theorem MB.kept {w w' : World} {B Rb Mb C : Nat} {T : TypeId} {ws : Array Value} {m : Md} {vi vh vs : Value} {us : List Value} (g : MB w B Rb Mb m vi vh vs us) (hb : Bk w C T ws) (t1 : T ≠ 27) (t2 : T ≠ 3) (t3 : T ≠ 37) (t4 : T ≠ 39) (t5 : T ≠ 53) (ht : Turns (fun k => k = C) w w') : MB w' B Rb Mb m vi vh vs us :=
 g.turns ht (fun e => g.r.neq hb t1.symm e) (fun e => g.b.neq hb t1.symm e) (fun _ hk e => owns_ne g.i hb t2 (e ▸ hk)) (fun _ hk e => owns_ne g.h hb t3 (e ▸ hk)) (fun i _ hi hk e => owns_ne (g.u.2.1 i hi) hb t4 (e ▸ hk)) (fun _ hk e => owns_ne g.e hb t5 (e ▸ hk))
theorem MB.below {w w' : World} {B Rb Mb : Nat} {m : Md} {vi vh vs : Value} {us : List Value} (g : MB w B Rb Mb m vi vh vs us) (hb : Below w.heap.size w w') : MB w' B Rb Mb m vi vh vs us :=
 g.turns (S := fun _ => False) (Turns.of_below hb) id id (fun _ _ => id) (fun _ _ => id) (fun _ _ _ _ => id) (fun _ _ => id)
theorem MB.alloc {w : World} {B Rb Mb : Nat} {m : Md} {vi vh vs : Value} {us : List Value} (g : MB w B Rb Mb m vi vh vs us) (o : Obj) : MB (w.alloc o) B Rb Mb m vi vh vs us := g.below ((Below.refl _ w).alloc (Nat.le_refl _) o)
theorem MB.drew {w : World} {B Rb Mb : Nat} {m : Md} {vi vh vs : Value} {us : List Value} (g : MB w B Rb Mb m vi vh vs us) : MB w.drew B Rb Mb m vi vh vs us := g.below (Below.refl _ w).drew
theorem owns_apart {B B' : Nat} {e e' : TypeId} {size n size' n' : Nat} {w : World} {v v' : Value} {xs xs' : List Value} (h : w.ownsRow B e size v n xs) (h' : w.ownsRow B' e' size' v' n' xs') (he : e ≠ e') {k : Nat} (hk : v.ownBlock = some k) : ¬ v'.ownBlock = some k := by
 intro hk'
 obtain ⟨_, ⟨rfl, _⟩ | ⟨g, cap, cur, rfl, _, hc, _⟩⟩ := h
 ·simp [Value.ownBlock] at hk
 ·obtain ⟨_, ⟨rfl, _⟩ | ⟨g', cap', cur', rfl, _, hc', _⟩⟩ := h'
  ·simp [Value.ownBlock] at hk'
  ·simp [Value.ownBlock] at hk hk'
   subst hk hk'
   rw [hc] at hc'
   simp at hc'
   exact he hc'.2
theorem MB.putN {w : World} {B Rb Mb : Nat} {m : Md} {vi vh vs : Value} {us : List Value} (g : MB w B Rb Mb m vi vh vs us) (z : Int) : MB (w.setCell ⟨Mb, 5, none⟩ (.int .i64 z)) B Rb Mb ⟨m.n, m.s, m.i, m.h, m.e, z⟩ vi vh vs us := by
 have ht := put1_turns w Mb 5 (.int .i64 z)
 exact ⟨g.ne, g.r.turns ht g.ne, g.b.put 5 _, owns_turns g.i ht (fun k hk e => owns_ne g.i g.b (by decide) (e ▸ hk)), owns_turns g.h ht (fun k hk e => owns_ne g.h g.b (by decide) (e ▸ hk)), g.u.turns ht (fun i k hi hk e => owns_ne (g.u.2.1 i hi) g.b (by decide) (e ▸ hk)), owns_turns g.e ht (fun k hk e => owns_ne g.e g.b (by decide) (e ▸ hk))⟩
theorem MB.putS {w : World} {B Rb Mb : Nat} {m : Md} {vi vh vs : Value} {us : List Value} (g : MB w B Rb Mb m vi vh vs us) (z : Int) : MB (w.setCell ⟨Mb, 1, none⟩ (.int .i64 z)) B Rb Mb ⟨m.n, z, m.i, m.h, m.e, m.z⟩ vi vh vs us := by
 have ht := put1_turns w Mb 1 (.int .i64 z)
 exact ⟨g.ne, g.r.turns ht g.ne, g.b.put 1 _, owns_turns g.i ht (fun k hk e => owns_ne g.i g.b (by decide) (e ▸ hk)), owns_turns g.h ht (fun k hk e => owns_ne g.h g.b (by decide) (e ▸ hk)), g.u.turns ht (fun i k hi hk e => owns_ne (g.u.2.1 i hi) g.b (by decide) (e ▸ hk)), owns_turns g.e ht (fun k hk e => owns_ne g.e g.b (by decide) (e ▸ hk))⟩
theorem MB.putL {w : World} {B Rb Mb : Nat} {m : Md} {vi vh vs : Value} {us : List Value} (g : MB w B Rb Mb m vi vh vs us) (z : Int) : MB (w.setCell ⟨Mb, 0, none⟩ (.int .i64 z)) B Rb Mb ⟨z, m.s, m.i, m.h, m.e, m.z⟩ vi vh vs us := by
 have ht := put1_turns w Mb 0 (.int .i64 z)
 exact ⟨g.ne, g.r.turns ht g.ne, g.b.put 0 _, owns_turns g.i ht (fun k hk e => owns_ne g.i g.b (by decide) (e ▸ hk)), owns_turns g.h ht (fun k hk e => owns_ne g.h g.b (by decide) (e ▸ hk)), g.u.turns ht (fun i k hi hk e => owns_ne (g.u.2.1 i hi) g.b (by decide) (e ▸ hk)), owns_turns g.e ht (fun k hk e => owns_ne g.e g.b (by decide) (e ▸ hk))⟩
theorem MB.putI {w w3 : World} {B Rb Mb : Nat} {m : Md} {vi vh vs v3 : Value} {us : List Value} {z : Int} (g : MB w B Rb Mb m vi vh vs us) (ho : w3.ownsRow B 3 1 v3 (m.i.length + 1) (intCells m.i ++ intCells [z])) (hg : w.grownBy w3 vi.ownBlock) : MB (w3.setCell ⟨Mb, 2, none⟩ v3) B Rb Mb ⟨m.n, m.s, m.i ++ [z], m.h, m.e, m.z⟩ v3 vh vs us := by
 have ht := grown_turns hg
 have n1 := owns_ne g.i g.r (by decide)
 have n2 := owns_ne g.i g.b (by decide)
 have r3 := g.r.turns ht n1
 have b3 := g.b.turns ht n2
 have h3 := owns_turns g.h ht (fun k hk e => owns_apart g.i g.h (by decide) e hk)
 have u3 := g.u.turns ht (fun i k hi hk e => owns_apart g.i (g.u.2.1 i hi) (by decide) e hk)
 have e3 := owns_turns g.e ht (fun k hk e => owns_apart g.i g.e (by decide) e hk)
 have hp := put1_turns w3 Mb 2 v3
 refine ⟨g.ne, r3.turns hp g.ne, b3.put 2 _, ?_, owns_turns h3 hp (fun k hk e => owns_ne h3 b3 (by decide) (e ▸ hk)), u3.turns hp (fun i k hi hk e => owns_ne (u3.2.1 i hi) b3 (by decide) (e ▸ hk)), owns_turns e3 hp (fun k hk e => owns_ne e3 b3 (by decide) (e ▸ hk))⟩
 have := owns_turns ho hp (fun k hk e => owns_ne ho b3 (by decide) (e ▸ hk))
 simpa [intCells] using this
theorem MB.putH {w w3 : World} {B B' Rb Mb : Nat} {m : Md} {vi vh vs v3 u : Value} {us : List Value} {r : List O} (g : MB w B Rb Mb m vi vh vs us) (hu : w.ownsRow B' 39 4 u r.length (cellsO r)) (hB : B ≤ B') (hold : ∀ i k, i < m.h.length → (uAt us i).ownBlock = some k → k < B') (ho : w3.ownsRow B 37 1 v3 (m.h.length + 1) (us ++ [u])) (hg : w.grownBy w3 vh.ownBlock) : MB (w3.setCell ⟨Mb, 3, none⟩ v3) B Rb Mb ⟨m.n, m.s, m.i, m.h ++ [r], m.e, m.z⟩ vi v3 vs (us ++ [u]) := by
 have ht := grown_turns hg
 have r3 := g.r.turns ht (owns_ne g.h g.r (by decide))
 have b3 := g.b.turns ht (owns_ne g.h g.b (by decide))
 have i3 := owns_turns g.i ht (fun k hk e => owns_apart g.h g.i (by decide) e hk)
 have u3 := (g.u.snoc hu hB hold).turns ht (fun i k hi hk e => owns_apart g.h ((g.u.snoc hu hB hold).2.1 i hi) (by decide) e hk)
 have e3 := owns_turns g.e ht (fun k hk e => owns_apart g.h g.e (by decide) e hk)
 have hp := put1_turns w3 Mb 3 v3
 refine ⟨g.ne, r3.turns hp g.ne, b3.put 3 _, owns_turns i3 hp (fun k hk e => owns_ne i3 b3 (by decide) (e ▸ hk)), ?_, u3.turns hp (fun i k hi hk e => owns_ne (u3.2.1 i hi) b3 (by decide) (e ▸ hk)), owns_turns e3 hp (fun k hk e => owns_ne e3 b3 (by decide) (e ▸ hk))⟩
 have := owns_turns ho hp (fun k hk e => owns_ne ho b3 (by decide) (e ▸ hk))
 simpa using this
theorem MB.putE {w w3 : World} {B Rb Mb : Nat} {m : Md} {vi vh vs v3 : Value} {us : List Value} {x : Ev} (g : MB w B Rb Mb m vi vh vs us) (ho : w3.ownsRow B 53 7 v3 (m.e.length + 1) (cellsL m.e ++ cellsL [x])) (hg : w.grownBy w3 vs.ownBlock) : MB (w3.setCell ⟨Mb, 4, none⟩ v3) B Rb Mb ⟨m.n, m.s, m.i, m.h, m.e ++ [x], m.z⟩ vi vh v3 us := by
 have ht := grown_turns hg
 have r3 := g.r.turns ht (owns_ne g.e g.r (by decide))
 have b3 := g.b.turns ht (owns_ne g.e g.b (by decide))
 have i3 := owns_turns g.i ht (fun k hk e => owns_apart g.e g.i (by decide) e hk)
 have h3 := owns_turns g.h ht (fun k hk e => owns_apart g.e g.h (by decide) e hk)
 have u3 := g.u.turns ht (fun i k hi hk e => owns_apart g.e (g.u.2.1 i hi) (by decide) e hk)
 have hp := put1_turns w3 Mb 4 v3
 refine ⟨g.ne, r3.turns hp g.ne, b3.put 4 _, owns_turns i3 hp (fun k hk e => owns_ne i3 b3 (by decide) (e ▸ hk)), owns_turns h3 hp (fun k hk e => owns_ne h3 b3 (by decide) (e ▸ hk)), u3.turns hp (fun i k hi hk e => owns_ne (u3.2.1 i hi) b3 (by decide) (e ▸ hk)), ?_⟩
 have := owns_turns ho hp (fun k hk e => owns_ne ho b3 (by decide) (e ▸ hk))
 rw [List.length_append, cellsL_append]
 exact this
theorem MB.isM {w : World} {B Rb Mb : Nat} {m : Md} {vi vh vs : Value} {us : List Value} (g : MB w B Rb Mb m vi vh vs us) : IsM w (.agg #[.int .i64 m.n, .int .i64 m.s, vi, vh, vs, .int .i64 m.z]) m :=
 ⟨vi, vh, vs, rfl, (RowF.of_owns (by rw [intCells_length]; omega) g.i).isI, g.u.isH g.h, (RowF.of_owns (cellsL_length _) g.e).isEvs⟩
theorem MB.new {w : World} {B Rb Mb : Nat} {n : Int} (ne : Rb ≠ Mb) (r : Bk w Rb 27 Z6) (b : Bk w Mb 27 #[.int .i64 n, .int .i64 0, .slice none 0 0, .slice none 0 0, .slice none 0 0, .int .i64 0]) : MB w B Rb Mb ⟨n, 0, [], [], [], 0⟩ (.slice none 0 0) (.slice none 0 0) (.slice none 0 0) [] :=
 ⟨ne, r, b, World.ownsRow_nil w _ 3 1, World.ownsRow_nil w _ _ 1, HsO.nil _ _, World.ownsRow_nil w _ _ 7⟩
def Aw (N Rb Mb : Nat) (vi vh vs : Value) (us : List Value) (n : Nat) : Prop := Rb < N ∧ Mb < N ∧ (∀ k, vi.ownBlock = some k → k < N) ∧ (∀ k, vh.ownBlock = some k → k < N) ∧ (∀ i k, i < n → (uAt us i).ownBlock = some k → k < N) ∧ ∀ k, vs.ownBlock = some k → k < N
theorem MB.aw {w : World} {B Rb Mb : Nat} {m : Md} {vi vh vs : Value} {us : List Value} (g : MB w B Rb Mb m vi vh vs us) : Aw w.heap.size Rb Mb vi vh vs us m.h.length :=
 ⟨g.r.lt, g.b.lt, fun _ hk => owns_lt g.i hk, fun _ hk => owns_lt g.h hk, g.u.old, fun _ hk => owns_lt g.e hk⟩
structure MO (w : World) (B : Nat) (m : Md) (vi vh vs : Value) (us : List Value) : Prop where
 i : w.ownsRow B 3 1 vi m.i.length (intCells m.i)
 h : w.ownsRow B 37 1 vh m.h.length us
 u : HsO B w us m.h
 e : w.ownsRow B 53 7 vs m.e.length (cellsL m.e)
theorem MB.mo {w w' : World} {B Rb Mb : Nat} {m : Md} {vi vh vs : Value} {us : List Value} (g : MB w B Rb Mb m vi vh vs us) (ht : Turns (fun k => k = Rb) w w') : MO w' B m vi vh vs us :=
 ⟨owns_turns g.i ht (fun _ hk e => owns_ne g.i g.r (by decide) (e ▸ hk)), owns_turns g.h ht (fun _ hk e => owns_ne g.h g.r (by decide) (e ▸ hk)), g.u.turns ht (fun i _ hi hk e => owns_ne (g.u.2.1 i hi) g.r (by decide) (e ▸ hk)), owns_turns g.e ht (fun _ hk e => owns_ne g.e g.r (by decide) (e ▸ hk))⟩
theorem Turns.trans' {S : Nat → Prop} {a w w' : World} {b : Nat} (h : Turns S a w) (ht : Turns (fun k => k = b) w w') (hb : a.heap.size ≤ b) : Turns S a w' :=
 ⟨ht.os.trans h.os, ht.tape.trans h.tape, ht.output.trans h.output, Nat.le_trans h.size ht.size, fun k hk hS => (ht.block k (Nat.lt_of_lt_of_le hk h.size) (fun e => by omega)).trans (h.block k hk hS)⟩
theorem MB.keptC {w w' : World} {B Rb Mb c : Nat} {m : Md} {vi vh vs : Value} {us : List Value} (g : MB w B Rb Mb m vi vh vs us) (hc : c < B) (h1 : B ≤ Rb) (h2 : B ≤ Mb) (ht : Turns (fun k => k = c) w w') : MB w' B Rb Mb m vi vh vs us :=
 g.turns ht (fun e => by omega) (fun e => by omega) (fun k hk e => by have := row_ge g.i hk; omega) (fun k hk e => by have := row_ge g.h hk; omega) (fun i k hi hk e => by have := row_ge (g.u.2.1 i hi) hk; omega) (fun k hk e => by have := row_ge g.e hk; omega)
theorem Cur.drew {w : World} {c : Nat} (H : Cur w c) : Cur w.drew c := H.below (Below.refl _ w).drew H.lt
theorem Cur.turns {w w' : World} {c : Nat} {S : Nat → Prop} (H : Cur w c) (ht : Turns S w w') (hS : ∀ k, k ≤ c → ¬ S k) : Cur w' c :=
 H.below (B := c + 1) ⟨ht.os, ht.tape, ht.output, ht.size, fun k hk => ht.block k (by have := H.lt; omega) (hS k (by omega))⟩ (by omega)
theorem MB.grownA {w w' : World} {N B Rb Mb : Nat} {m : Md} {vi vh vs : Value} {us : List Value} {row : Option Nat} (g : MB w B Rb Mb m vi vh vs us) (a : Aw N Rb Mb vi vh vs us m.h.length) (hg : w.grownBy w' row) (hr : ∀ k, row = some k → N ≤ k) : MB w' B Rb Mb m vi vh vs us := by
 obtain ⟨a1, a2, a3, a4, a5, a6⟩ := a
 exact g.turns (grown_turns hg) (fun e => by have := hr _ e; omega) (fun e => by have := hr _ e; omega) (fun k hk e => by have := a3 k hk; have := hr _ e; omega) (fun k hk e => by have := a4 k hk; have := hr _ e; omega) (fun i k hi hk e => by have := a5 i k hi hk; have := hr _ e; omega) (fun k hk e => by have := a6 k hk; have := hr _ e; omega)
theorem Cur.grown {w w' : World} {c : Nat} {row : Option Nat} (H : Cur w c) (hg : w.grownBy w' row) (hr : ∀ k, row = some k → c < k) : Cur w' c := H.turns (grown_turns hg) (fun k hk e => by have := hr k e; omega)
theorem Cur.put {w : World} {c b : Nat} (H : Cur w c) (hb : c < b) (o : Nat) (u : Value) : Cur (w.setCell ⟨b, o, none⟩ u) c := H.set (p := ⟨b, o, none⟩) hb u
theorem RowF.ownB {B : Nat} {T : TypeId} {w : World} {x : Value} {n c : Nat} {cs : List Value} (hcs : cs.length = n * c) (h : w.ownsRow B T c x n cs) : RowF (fun k => x.ownBlock = some k) w x n c cs := by
 obtain ⟨hl, a, cap, rfl, h1, h2, h3⟩ := RowF.of_owns hcs h
 refine ⟨hl, a, cap, rfl, h1, h2, h3.imp id ?_⟩
 rintro ⟨g, rfl, _, h4⟩
 exact ⟨g, rfl, by simp [Value.ownBlock], h4⟩
theorem us_range {us : List Value} {n : Nat} (h : us.length = n) : (List.range n).map (uAt us) = us := by
 subst h
 apply List.ext_getElem?
 intro i
 by_cases hi : i < us.length
 ·simp [hi, uAt]
 ·simp [hi]
theorem HsO.hsF {B B' : Nat} {w : World} {us : List Value} {hs : List (List O)} {v : Value} (h : HsO B w us hs) (hv : w.ownsRow B' 37 1 v hs.length us) : HsF (fun k => v.ownBlock = some k ∨ ∃ i, i < hs.length ∧ (uAt us i).ownBlock = some k) w v hs := by
 refine ⟨uAt us, (fun k => v.ownBlock = some k), (fun i k => (uAt us i).ownBlock = some k), ?_, fun k e => .inl e, fun i hi => ⟨RowF.ownB (cellsO_length _) (h.2.1 i hi), fun k e => ⟨.inr ⟨i, hi, e⟩, fun e' => owns_apart hv (h.2.1 i hi) (by decide) e' e⟩⟩, fun i j hi hj hij k e => ?_⟩
 ·rw [us_range h.1]
  exact RowF.ownB (by rw [h.1]; omega) hv
 ·by_cases hlt : i < j
  ·exact h.2.2 i j k hlt hj e
  ·intro e'
   exact h.2.2 j i k (by omega) hi e' e
theorem MO.mdf {w : World} {B : Nat} {m : Md} {vi vh vs : Value} {us : List Value} (g : MO w B m vi vh vs us) : MdF (fun k => B ≤ k ∧ k < w.heap.size) w (.agg #[.int .i64 m.n, .int .i64 m.s, vi, vh, vs, .int .i64 m.z]) m := by
 refine ⟨(fun k => vi.ownBlock = some k), (fun k => vh.ownBlock = some k ∨ ∃ i, i < m.h.length ∧ (uAt us i).ownBlock = some k), (fun k => vs.ownBlock = some k), vi, vh, vs, rfl, RowF.ownB (by rw [intCells_length]; omega) g.i, g.u.hsF g.h, RowF.ownB (cellsL_length _) g.e, fun k e => ⟨⟨row_ge g.i e, owns_lt g.i e⟩, ?_, owns_apart g.i g.e (by decide) e⟩, ?_, fun k e => ⟨row_ge g.e e, owns_lt g.e e⟩⟩
 ·rintro (e' | ⟨i, hi, e'⟩)
  ·exact owns_apart g.i g.h (by decide) e e'
  ·exact owns_apart g.i (g.u.2.1 i hi) (by decide) e e'
 ·rintro k (e | ⟨i, hi, e⟩)
  ·exact ⟨⟨row_ge g.h e, owns_lt g.h e⟩, owns_apart g.h g.e (by decide) e⟩
  ·exact ⟨⟨row_ge (g.u.2.1 i hi) e, owns_lt (g.u.2.1 i hi) e⟩, owns_apart (g.u.2.1 i hi) g.e (by decide) e⟩
end Go.Proofs.YtbljfphdghfkfaaGreatDoor

/- Rows of numbers: eqByteS where both sides are the same, markByteS, heldByteS. -/
namespace Go.Proofs.YtbljfphdghfkfaaGreatDoor.By
open Go.RowKit Go.Proofs.YtbljfphdghfkfaaGreatDoor
def intAt (l : List UInt8) (i : Nat) : UInt8 := l.getD i 0
def intCells (l : List UInt8) : List Value := l.map (fun z => Value.int .u8 (z.toNat : Int))
def IntsAt (w : World) (b off : Nat) (l : List UInt8) : Prop := b < w.heap.size ∧ ∀ i, i < l.length → w.cell? ⟨b, off + i, none⟩ = some (.int .u8 ((intAt l i).toNat : Int))
def IsI (w : World) (x : Value) (l : List UInt8) : Prop := ∃ a cap, x = .slice a l.length cap ∧ l.length ≤ cap ∧ cap ≤ maxLen ∧ (l = [] ∨ ∃ b off, a = some ⟨b, off, none⟩ ∧ IntsAt w b off l)
theorem IntsAt.below {w w' : World} {B b off : Nat} {l : List UInt8} (h : IntsAt w b off l) (hb : Below B w w') (hB : b < B) : IntsAt w' b off l :=
 ⟨Nat.lt_of_lt_of_le h.1 hb.size, fun i hi => (hb.cell hB).trans (h.2 i hi)⟩
theorem IsI.below {w w' : World} {x : Value} {l : List UInt8} (h : IsI w x l) (hb : Below w.heap.size w w') : IsI w' x l := by
 obtain ⟨a, cap, rfl, h1, h2, h⟩ := h
 exact ⟨a, cap, rfl, h1, h2, h.imp id (fun ⟨b, off, e, h⟩ => ⟨b, off, e, h.below hb h.1⟩)⟩
theorem setCell_grown (w : World) (g o : Nat) (v : Value) : w.grownBy (w.setCell ⟨g, o, none⟩ v) (some g) := by
 refine ⟨?_, ?_, ?_, by simp, fun k _ hk => Below.heap_setCell _ _ _ _ (fun e => hk (by rw [e]))⟩
 all_goals (unfold World.setCell; rfl)
def OwnI (B : Nat) (w : World) (x : Value) (l : List UInt8) : Prop := ∃ a cap, x = .slice a l.length cap ∧ l.length ≤ cap ∧ cap ≤ maxLen ∧ (l = [] ∨ ∃ g, a = some ⟨g, 0, none⟩ ∧ B ≤ g ∧ (∀ j, j < l.length → w.frozen? ⟨g, j, none⟩ = false) ∧ IntsAt w g 0 l)
theorem OwnI.nil (B : Nat) (w : World) : OwnI B w (.slice none 0 0) [] := ⟨none, 0, rfl, Nat.le_refl _, Nat.zero_le _, .inl rfl⟩
theorem OwnI.isI {B : Nat} {w : World} {x : Value} {l : List UInt8} (h : OwnI B w x l) : IsI w x l := by
 obtain ⟨a, cap, rfl, h1, h2, h⟩ := h
 exact ⟨a, cap, rfl, h1, h2, h.imp id (fun ⟨g, e, _, _, hr⟩ => ⟨g, 0, e, hr⟩)⟩
theorem OwnI.mono {B B' : Nat} {w : World} {x : Value} {l : List UInt8} (h : OwnI B w x l) (hb : B' ≤ B) : OwnI B' w x l := by
 obtain ⟨a, cap, rfl, h1, h2, h⟩ := h
 exact ⟨a, cap, rfl, h1, h2, h.imp id (fun ⟨g, e, hg, hr⟩ => ⟨g, e, Nat.le_trans hb hg, hr⟩)⟩
theorem OwnI.of_row {B : Nat} {w : World} {x : Value} {l : List UInt8} (h : w.ownsRow B 5 1 x l.length (intCells l)) : OwnI B w x l := by
 obtain ⟨hl, ⟨rfl, h0⟩ | ⟨g, cap, cur, rfl, hg, hc, h1, h2, h3, h4⟩⟩ := h
 ·exact ⟨none, 0, by rw [h0], by omega, by unfold maxLen; omega, .inl (List.eq_nil_of_length_eq_zero h0)⟩
 ·refine ⟨_, cap, rfl, h1, h2, .inr ⟨g, rfl, hg, fun j hj => ?_, (Array.getElem?_eq_some_iff.1 hc).1, fun i hi => ?_⟩⟩
  ·have hj2 : j < cur.size := by omega
   simp [World.frozen?, hc]
  ·have e1 : w.cell? ⟨g, i, none⟩ = (intCells l)[i]? := by
    rw [← h4, List.getElem?_take_of_lt (by omega)]
    simp [World.cell?, hc]
   rw [Nat.zero_add, e1]
   simp [intCells, intAt, hi]
end Go.Proofs.YtbljfphdghfkfaaGreatDoor.By

/- toByteS: a row of one's own. -/
namespace Go.Proofs.YtbljfphdghfkfaaGreatDoor.By
open Go.RowKit Go.Proofs.YtbljfphdghfkfaaGreatDoor
theorem info5 : (Tryz.prog.info? 5).map (fun i => (i.zero, i.size, i.bytes)) = some (some (.int .u8 0), 1, 1) := by kernel_rfl
end Go.Proofs.YtbljfphdghfkfaaGreatDoor.By

/- AsksOf: plain words; the specification's. -/
namespace Go.Proofs.YtbljfphdghfkfaaGreatDoor
open Go.RowKit
def askO (o : O) (d : Nat) : Bool := decide (o.c = 4) && decide (o.a = (d : Int))
def askR (r : List O) (d k : Nat) : Bool := (List.range k).any fun q => askO (oAt r q) d
def askH (m : Md) (d k : Nat) : Bool := (List.range k).any fun i => askR (hAt m.h i) d (hAt m.h i).length
theorem askR_succ (r : List O) (d k : Nat) : askR r d (k + 1) = (askR r d k || askO (oAt r k) d) := by simp [askR, List.range_succ]
theorem askH_succ (m : Md) (d k : Nat) : askH m d (k + 1) = (askH m d k || askR (hAt m.h k) d (hAt m.h k).length) := by simp [askH, List.range_succ]
def asksTo (m : Md) (n : Nat) : List Int := ((List.range n).filter fun d => askH m d m.h.length).map Int.ofNat
theorem asksTo_yes (m : Md) (n : Nat) (h : askH m n m.h.length = true) : asksTo m (n + 1) = asksTo m n ++ [(n : Int)] := by simp [asksTo, List.range_succ, h]
theorem asksTo_no (m : Md) (n : Nat) (h : askH m n m.h.length = false) : asksTo m (n + 1) = asksTo m n := by simp [asksTo, List.range_succ, h]
theorem asksTo_length (m : Md) (n : Nat) : (asksTo m n).length ≤ n := by
 unfold asksTo
 rw [List.length_map]
 exact Nat.le_trans (List.length_filter_le _ _) (by simp)
def asksL (m : Md) : List Int := if m.ok = true then asksTo m 4 else []
theorem intCells_append (l l' : List Int) : intCells (l ++ l') = intCells l ++ intCells l' := by simp [intCells]
end Go.Proofs.YtbljfphdghfkfaaGreatDoor

