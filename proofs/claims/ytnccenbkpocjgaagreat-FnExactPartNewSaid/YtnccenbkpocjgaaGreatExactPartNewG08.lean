/- InOrd, SoE, Rows2, Copies, NTurn, NInts, MPure, MRow, VTo -/
import Derived.Test.YtnccenbkpocjgaaGreatExactPartNewG06
import Derived.Test.YtnccenbkpocjgaaGreatExactPartNewLPair
import Derived.Test.YtnccenbkpocjgaaGreatExactPartNewG02
import Derived.Test.YtnccenbkpocjgaaGreatExactPartNewG03
import Derived.Sort.Statements
import Derived.Sort.Grow
import Derived.Deep.Draws
import Derived.OwnWalk
import Derived.Test.YtnccenbkpocjgaaGreatRows
import Derived.WalkKit
import Derived.Below
import Derived.Deep.RegionHeld3
import Derived.Test.YtnccenbkpocjgaaGreatExactPartNewG01
/- The program's inOrder. -/
namespace Go.Proofs.YtnccenbkpocjgaaGreat
open Go.RowKit Go.Shelf
attribute [local go_sem] Oper.semAt_some
end Go.Proofs.YtnccenbkpocjgaaGreat

/- The order of events as slices.SortFunc asks it; what EventCmp lays, as it asks it. -/
namespace Go.Proofs.YtnccenbkpocjgaaGreat
open Go.RowKit
theorem cmp_lt_iff (a b : Ev) : a.cmp b < 0 ↔ a.t < b.t ∨ a.t = b.t ∧ (a.s < b.s ∨ a.s = b.s ∧ (a.q < b.q ∨ a.q = b.q ∧ a.g < b.g)) := cmpI_lt _ _ _ _ _ _ _ _
abbrev EvF : Type := {e : Ev // e.ok = true}
theorem swoE : Go.Sort.SWO (fun x y : EvF => decide (x.1.cmp y.1 < 0)) where
 irrefl x := by simp only [decide_eq_false_iff_not, cmp_lt_iff]; omega
 trans x y z h1 h2 := by simp only [decide_eq_true_eq, cmp_lt_iff] at *; omega
 ntrans x y z h1 h2 := by simp only [decide_eq_false_iff_not, cmp_lt_iff] at *; omega
theorem lay_of {W w' : World} (h : Below W.heap.size W w') (hd : W.drawn ≤ w'.drawn) : ∃ q os', w' = Go.Sort.grow (W.drewN q) os' := by
 refine ⟨w'.drawn - W.drawn, w'.heap.extract W.heap.size w'.heap.size, ?_⟩
 have hh : w'.heap = W.heap ++ w'.heap.extract W.heap.size w'.heap.size := by
  refine Array.ext_getElem? fun k => ?_
  by_cases hk : k < W.heap.size
  ·rw [Array.getElem?_append_left hk]
   exact h.block k hk
  ·rw [Array.getElem?_append_right (by omega), Array.getElem?_extract]
   by_cases hk2 : k < w'.heap.size
   ·rw [if_pos (by omega), show W.heap.size + (k - W.heap.size) = k by omega]
   ·rw [if_neg (by omega), Array.getElem?_eq_none (by omega)]
 obtain ⟨hp, tp, dr, os, ou⟩ := w'
 have h1 := h.os
 have h2 := h.tape
 have h3 := h.output
 dsimp only at h1 h2 h3 hh hd ⊢
 unfold Go.Sort.grow World.drewN
 subst h1 h2 h3
 dsimp only
 rw [← hh, show W.drawn + (dr - W.drawn) = dr by omega]
end Go.Proofs.YtnccenbkpocjgaaGreat

/- Events as a row of cells; a row of one's own. -/
namespace Go.Proofs.YtnccenbkpocjgaaGreat
open Go.RowKit
def Ev.cs (e : Ev) : List Value := [.int .i64 e.t, .int .i64 e.s, .int .i64 e.q, .int .i64 e.d, .int .i64 e.k, .int .i64 e.v, .int .i64 e.g]
def cellsL : List Ev → List Value
 | [] => []
 | e :: l => e.cs ++ cellsL l
theorem cellsL_length : ∀ l : List Ev, (cellsL l).length = l.length * 7
 | [] => rfl
 | e :: l => by simp [cellsL, cellsL_length l, Ev.cs]; omega
theorem cellsL_append : ∀ l l' : List Ev, cellsL (l ++ l') = cellsL l ++ cellsL l'
 | [], _ => rfl
 | e :: l, l' => by simp [cellsL, cellsL_append l l']
theorem evAt_cons_succ (e : Ev) (l : List Ev) (i : Nat) : evAt (e :: l) (i + 1) = evAt l i := by simp [evAt]
theorem cellsL_get : ∀ (l : List Ev) (i r : Nat), i < l.length → r < 7 → (cellsL l)[i * 7 + r]? = (evAt l i).cs[r]?
 | [], _, _, h, _ => by simp at h
 | e :: l, 0, r, _, hr => by
  have : r < e.cs.length := by simpa [Ev.cs] using hr
  simp only [cellsL, Nat.zero_mul, Nat.zero_add]
  rw [List.getElem?_append_left this]
  simp [evAt]
 | e :: l, i + 1, r, h, hr => by
  have h1 := cellsL_get l i r (by simpa using h) hr
  have : e.cs.length ≤ (i + 1) * 7 + r := by simp [Ev.cs]; omega
  simp only [cellsL]
  rw [List.getElem?_append_right this, evAt_cons_succ, ← h1]
  congr 1
  simp [Ev.cs]; omega
theorem cellsL_one (l : List Ev) : ∀ u ∈ cellsL l, u.oneCell' = true := by
 induction l with
 | nil => intro u h; cases h
 | cons e l ih =>
  intro u h
  rcases List.mem_append.1 h with h | h
  ·simp [Ev.cs] at h
   rcases h with rfl | rfl | rfl | rfl | rfl | rfl | rfl <;> rfl
  ·exact ih u h
theorem Ev.In.get {w : World} {b o : Nat} {e : Ev} (h : Ev.In w b o e) {r : Nat} {u : Value} (hu : e.cs[r]? = some u) : w.cell? ⟨b, o + r, none⟩ = some u := by
 have hr : r < 7 := by have := (List.getElem?_eq_some_iff.1 hu).1; simpa [Ev.cs] using this
 have h7 : r = 0 ∨ r = 1 ∨ r = 2 ∨ r = 3 ∨ r = 4 ∨ r = 5 ∨ r = 6 := by omega
 rcases h7 with rfl | rfl | rfl | rfl | rfl | rfl | rfl <;> (simp [Ev.cs] at hu; subst hu)
 ·exact h.f0
 ·exact h.f1
 ·exact h.f2
 ·exact h.f3
 ·exact h.f4
 ·exact h.f5
 ·exact h.f6
end Go.Proofs.YtnccenbkpocjgaaGreat

/- The copies: l1own, copyOf; marks: markEventS, heldEventS. -/
namespace Go.Proofs.YtnccenbkpocjgaaGreat
open Go.RowKit
theorem row_empty (w : World) : (w.alloc (.cells #[] 55)).ownsRow w.heap.size 55 7 (.slice (some ⟨w.heap.size, 0, none⟩) 0 0) 0 [] :=
 ⟨rfl, .inr ⟨w.heap.size, 0, #[], rfl, Nat.le_refl _, (MapKept.heap_alloc w _).1, Nat.le_refl _, Nat.zero_le _, rfl, rfl⟩⟩
end Go.Proofs.YtnccenbkpocjgaaGreat

/- What turns, and what stays as it was. -/
namespace Go.Proofs.YtnccenbkpocjgaaGreat
open Go.RowKit
structure Turns (S : Nat → Prop) (w w' : World) : Prop where
 os : w'.os = w.os
 tape : w'.tape = w.tape
 output : w'.output = w.output
 size : w.heap.size ≤ w'.heap.size
 block : ∀ k, k < w.heap.size → ¬ S k → w'.heap[k]? = w.heap[k]?
theorem Turns.refl (S : Nat → Prop) (w : World) : Turns S w w := ⟨rfl, rfl, rfl, Nat.le_refl _, fun _ _ _ => rfl⟩
theorem Turns.trans {S : Nat → Prop} {a b c : World} (h : Turns S a b) (k : Turns S b c) : Turns S a c :=
 ⟨k.os.trans h.os, k.tape.trans h.tape, k.output.trans h.output, Nat.le_trans h.size k.size, fun i hi hS => (k.block i (Nat.lt_of_lt_of_le hi h.size) hS).trans (h.block i hi hS)⟩
theorem Turns.of_below {S : Nat → Prop} {w w' : World} (h : Below w.heap.size w w') : Turns S w w' := ⟨h.os, h.tape, h.output, h.size, fun k hk _ => h.block k hk⟩
theorem Turns.to_below {S : Nat → Prop} {w w' : World} {B : Nat} (h : Turns S w w') (hS : ∀ k, S k → B ≤ k) (hB : B ≤ w.heap.size) : Below B w w' :=
 ⟨h.os, h.tape, h.output, h.size, fun k hk => h.block k (by omega) (fun e => by have := hS k e; omega)⟩
theorem Turns.mono {S S' : Nat → Prop} {w w' : World} (h : Turns S w w') (hS : ∀ k, S k → S' k) : Turns S' w w' := ⟨h.os, h.tape, h.output, h.size, fun k hk hn => h.block k hk (fun e => hn (hS k e))⟩
theorem Turns.alloc {S : Nat → Prop} {a w : World} (h : Turns S a w) (o : Obj) : Turns S a (w.alloc o) := h.trans (Turns.of_below ((Below.refl _ w).alloc (Nat.le_refl _) o))
theorem Turns.setCell {S : Nat → Prop} {a w : World} (h : Turns S a w) {p : Addr} (hp : S p.block) (u : Value) : Turns S a (w.setCell p u) :=
 h.trans ⟨rfl, rfl, rfl, by simp [World.setCell], fun k _ hk => Below.heap_setCell _ _ _ _ (fun e => hk (e ▸ hp))⟩
theorem Turns.cell {S : Nat → Prop} {w w' : World} (h : Turns S w w') {b o : Nat} (hb : b < w.heap.size) (hS : ¬ S b) : w'.cell? ⟨b, o, none⟩ = w.cell? ⟨b, o, none⟩ := World.cell?_of_block (w := w) (h.block b hb hS)
theorem Turns.frozen {S : Nat → Prop} {w w' : World} (h : Turns S w w') {b o : Nat} (hb : b < w.heap.size) (hS : ¬ S b) : w'.frozen? ⟨b, o, none⟩ = w.frozen? ⟨b, o, none⟩ := World.frozen?_of_block (w := w) (h.block b hb hS)
end Go.Proofs.YtnccenbkpocjgaaGreat

/- Rows of numbers: eqIntS where both sides are the same, markIntS, heldIntS. -/
namespace Go.Proofs.YtnccenbkpocjgaaGreat
open Go.RowKit
def intAt (l : List Int) (i : Nat) : Int := l.getD i 0
def intCells (l : List Int) : List Value := l.map (Value.int .i64)
def IntsAt (w : World) (b off : Nat) (l : List Int) : Prop := b < w.heap.size ∧ ∀ i, i < l.length → w.cell? ⟨b, off + i, none⟩ = some (.int .i64 (intAt l i))
def IsI (w : World) (x : Value) (l : List Int) : Prop := ∃ a cap, x = .slice a l.length cap ∧ l.length ≤ cap ∧ cap ≤ maxLen ∧ (l = [] ∨ ∃ b off, a = some ⟨b, off, none⟩ ∧ IntsAt w b off l)
theorem IntsAt.below {w w' : World} {B b off : Nat} {l : List Int} (h : IntsAt w b off l) (hb : Below B w w') (hB : b < B) : IntsAt w' b off l :=
 ⟨Nat.lt_of_lt_of_le h.1 hb.size, fun i hi => (hb.cell hB).trans (h.2 i hi)⟩
theorem IsI.below {w w' : World} {x : Value} {l : List Int} (h : IsI w x l) (hb : Below w.heap.size w w') : IsI w' x l := by
 obtain ⟨a, cap, rfl, h1, h2, h⟩ := h
 exact ⟨a, cap, rfl, h1, h2, h.imp id (fun ⟨b, off, e, h⟩ => ⟨b, off, e, h.below hb h.1⟩)⟩
theorem grown_refl (w : World) (row : Option Nat) : w.grownBy w row := ⟨rfl, rfl, rfl, Nat.le_refl _, fun _ _ _ => rfl⟩
set_option maxHeartbeats 2000000 in
theorem eqI_same (x y : Value) (l : List Int) (w : World) (hl : l.length ≤ 4611686018427387904) (hx : IsI w x l) (hy : IsI w y l) :
  Calls Tryz.prog 29 #[x, y] w fun e w' => e = .returned (.bool true) ∧ Below w.heap.size w w' := by
 obtain ⟨a, cap, rfl, h1, h2, h⟩ := hx
 obtain ⟨a', cap', rfl, h1', h2', h'⟩ := hy
 clear h1 h2 h1' h2'
 by_cases hz : l = []
 ·subst hz
  clear h h'
  go_enter Tryz.func29, Tryz.ntmps29
  go_wp2
  go_loop [5] (fun i => i = .int .i64 0) (fun _ => 0)
  case atStart => rfl
  case round =>
   subst hrel
   go_wp2
   go_ret
   exact ⟨rfl, Below.refl _ _⟩
 ·obtain ⟨b, off, rfl, hb, hc⟩ := h.resolve_left hz
  obtain ⟨b', off', rfl, hb', hc'⟩ := h'.resolve_left hz
  clear h h' hz
  go_enter Tryz.func29, Tryz.ntmps29
  go_wp2
  go_loopw [5] (fun i wr => ∃ k : Nat, k ≤ l.length ∧ i = .int .i64 k ∧ Below w.heap.size w wr) (fun i _ => l.length - (intOf i).toNat)
  case atStart => exact ⟨0, Nat.zero_le _, rfl, Below.refl _ _⟩
  case round =>
   obtain ⟨k, hk, rfl, hB⟩ := hrel
   have HB : Hid (Below w.heap.size w wr) := hB
   by_cases hlt : k < l.length
   ·have f0 := (hB.cell (p := ⟨b, off + k, none⟩) hb).trans (hc k hlt)
    have e0 := (hB.cell (p := ⟨b', off' + k, none⟩) hb').trans (hc' k hlt)
    generalize intAt l k = z at f0 e0
    clear hB hc hc'
    go_wp2_with fail
    go_region_held3 (fun W => W.cell? ⟨b, off + k, none⟩ = some (.int .i64 z) ∧ W.cell? ⟨b', off' + k, none⟩ = some (.int .i64 z)) ((repeat' apply And.intro) <;> go_keep) (fail)
    go_wp2
    go_roundw
    case rel => exact ⟨k + 1, by omega, by go_num, HB.out.drew⟩
    case measure => simp [intOf]; omega
   ·clear hB hc hc'
    go_wp2
    go_ret
    exact ⟨rfl, HB.out⟩
end Go.Proofs.YtnccenbkpocjgaaGreat

/- Ops and models as plain values. -/
namespace Go.Proofs.YtnccenbkpocjgaaGreat
open Go.RowKit
structure O where
 c : Int
 a : Int
 b : Int
 k : Int
def oAt (l : List O) (i : Nat) : O := l.getD i ⟨0, 0, 0, 0⟩
def hAt (l : List (List O)) (i : Nat) : List O := l.getD i []
structure Md where
 n : Int
 s : Int
 i : List Int
 h : List (List O)
 e : List Ev
 z : Int
def okO (n len c a b k : Int) : Bool :=
 decide ((c = 0 ∧ 0 ≤ a ∧ a ≤ 1 ∧ 0 ≤ b ∧ b ≤ 999 ∧ k = 0) ∨ ((c = 1 ∨ c = 5) ∧ 0 ≤ a ∧ a ≤ 1 ∧ b = 0 ∧ k = 0) ∨ (c = 6 ∧ 0 ≤ a ∧ a ≤ 1 ∧ 1 ≤ b ∧ b ≤ 999 ∧ k = 0) ∨
  (c = 2 ∧ 0 ≤ a ∧ a < n ∧ 1 ≤ b ∧ b ≤ 50 ∧ 0 ≤ k ∧ k < len) ∨ (c = 3 ∧ 0 ≤ a ∧ a ≤ 1 ∧ 0 ≤ b ∧ b ≤ 999 ∧ 1 ≤ k ∧ k ≤ 8) ∨ (c = 4 ∧ 0 ≤ a ∧ a ≤ 3 ∧ 0 ≤ b ∧ b ≤ 1 ∧ k = 0))
def O.ok (n len : Int) (o : O) : Bool := okO n len o.c o.a o.b o.k
def O.cs (e : O) : List Value := [.int .i64 e.c, .int .i64 e.a, .int .i64 e.b, .int .i64 e.k]
def cellsO : List O → List Value
 | [] => []
 | e :: l => e.cs ++ cellsO l
theorem cellsO_length : ∀ l : List O, (cellsO l).length = l.length * 4
 | [] => rfl
 | e :: l => by simp [cellsO, cellsO_length l, O.cs]; omega
theorem oAt_cons_succ (e : O) (l : List O) (i : Nat) : oAt (e :: l) (i + 1) = oAt l i := by simp [oAt]
theorem cellsO_get : ∀ (l : List O) (i r : Nat), i < l.length → r < 4 → (cellsO l)[i * 4 + r]? = (oAt l i).cs[r]?
 | [], _, _, h, _ => by simp at h
 | e :: l, 0, r, _, hr => by
  have : r < e.cs.length := by simpa [O.cs] using hr
  simp only [cellsO, Nat.zero_mul, Nat.zero_add]
  rw [List.getElem?_append_left this]
  simp [oAt]
 | e :: l, i + 1, r, h, hr => by
  have h1 := cellsO_get l i r (by simpa using h) hr
  have : e.cs.length ≤ (i + 1) * 4 + r := by simp [O.cs]; omega
  simp only [cellsO]
  rw [List.getElem?_append_right this, oAt_cons_succ, ← h1]
  congr 1
  simp [O.cs]; omega
end Go.Proofs.YtnccenbkpocjgaaGreat

/- Rows of cells in blocks of F: what they hold, and what stays of them. -/
namespace Go.Proofs.YtnccenbkpocjgaaGreat
open Go.RowKit
def RowF (F : Nat → Prop) (w : World) (x : Value) (n c : Nat) (cs : List Value) : Prop :=
 cs.length = n * c ∧ ∃ a cap, x = .slice a n cap ∧ n ≤ cap ∧ cap ≤ maxLen ∧
  (n = 0 ∨ ∃ g, a = some ⟨g, 0, none⟩ ∧ F g ∧ g < w.heap.size ∧ ∀ j, j < n * c → w.cell? ⟨g, j, none⟩ = cs[j]? ∧ w.frozen? ⟨g, j, none⟩ = false)
theorem RowF.turns {F S : Nat → Prop} {w w' : World} {x : Value} {n c : Nat} {cs : List Value} (h : RowF F w x n c cs) (ht : Turns S w w') (hS : ∀ k, F k → ¬ S k) : RowF F w' x n c cs := by
 obtain ⟨hl, a, cap, rfl, h1, h2, h⟩ := h
 refine ⟨hl, a, cap, rfl, h1, h2, h.imp id ?_⟩
 rintro ⟨g, rfl, hF, hg, hc⟩
 exact ⟨g, rfl, hF, Nat.lt_of_lt_of_le hg ht.size, fun j hj => by rw [ht.cell hg (hS g hF), ht.frozen hg (hS g hF)]; exact hc j hj⟩
theorem RowF.below {F : Nat → Prop} {w w' : World} {x : Value} {n c : Nat} {cs : List Value} (h : RowF F w x n c cs) (hb : Below w.heap.size w w') : RowF F w' x n c cs :=
 h.turns (S := fun _ => False) (Turns.of_below hb) (fun _ _ => id)
theorem RowF.mono {F F' : Nat → Prop} {w : World} {x : Value} {n c : Nat} {cs : List Value} (h : RowF F w x n c cs) (hF : ∀ k, F k → F' k) : RowF F' w x n c cs := by
 obtain ⟨hl, a, cap, rfl, h1, h2, h⟩ := h
 exact ⟨hl, a, cap, rfl, h1, h2, h.imp id (fun ⟨g, e, h3, h4⟩ => ⟨g, e, hF g h3, h4⟩)⟩
theorem RowF.of_owns {B : Nat} {T : TypeId} {w : World} {x : Value} {n c : Nat} {cs : List Value} (hcs : cs.length = n * c) (h : w.ownsRow B T c x n cs) : RowF (fun k => B ≤ k ∧ k < w.heap.size) w x n c cs := by
 obtain ⟨hl, ⟨rfl, h0⟩ | ⟨g, cap, cur, rfl, hg, hc, h1, h2, h3, h4⟩⟩ := h
 ·exact ⟨hcs, none, 0, by rw [h0], by omega, by unfold maxLen; omega, .inl h0⟩
 ·have hlt : g < w.heap.size := (Array.getElem?_eq_some_iff.1 hc).1
  refine ⟨hcs, _, cap, rfl, h1, h2, .inr ⟨g, rfl, ⟨hg, hlt⟩, hlt, fun j hj => ?_⟩⟩
  have hj2 : j < cur.size := by rw [h3]; exact Nat.lt_of_lt_of_le hj (Nat.mul_le_mul_right c h1)
  refine ⟨?_, by simp [World.frozen?, hc]⟩
  rw [← h4, List.getElem?_take_of_lt (by omega)]
  simp [World.cell?, hc]
theorem intCells_length (l : List Int) : (intCells l).length = l.length := by simp [intCells]
theorem RowF.isI {F : Nat → Prop} {w : World} {x : Value} {l : List Int} (h : RowF F w x l.length 1 (intCells l)) : IsI w x l := by
 obtain ⟨hl, a, cap, rfl, h1, h2, h⟩ := h
 refine ⟨a, cap, rfl, h1, h2, h.imp List.eq_nil_of_length_eq_zero ?_⟩
 rintro ⟨g, rfl, hF, hg, hc⟩
 refine ⟨g, 0, rfl, hg, fun i hi => ?_⟩
 rw [Nat.zero_add, (hc i (by omega)).1]
 simp [intCells, intAt, hi]
structure OAt (w : World) (b o : Nat) (e : O) : Prop where
 f0 : w.cell? ⟨b, o, none⟩ = some (.int .i64 e.c)
 f1 : w.cell? ⟨b, o + 1, none⟩ = some (.int .i64 e.a)
 f2 : w.cell? ⟨b, o + 2, none⟩ = some (.int .i64 e.b)
 f3 : w.cell? ⟨b, o + 3, none⟩ = some (.int .i64 e.k)
theorem OAt.below {w w' : World} {B b o : Nat} {e : O} (h : OAt w b o e) (hb : Below B w w') (hlt : b < B) : OAt w' b o e :=
 ⟨(hb.cell hlt).trans h.f0, (hb.cell hlt).trans h.f1, (hb.cell hlt).trans h.f2, (hb.cell hlt).trans h.f3⟩
def OsAt (w : World) (b off : Nat) (l : List O) : Prop := b < w.heap.size ∧ ∀ i, i < l.length → OAt w b (off + i * 4) (oAt l i)
def IsO (w : World) (x : Value) (l : List O) : Prop := ∃ a cap, x = .slice a l.length cap ∧ l.length ≤ cap ∧ cap ≤ maxLen ∧ (l = [] ∨ ∃ b off, a = some ⟨b, off, none⟩ ∧ OsAt w b off l)
theorem OsAt.below {w w' : World} {B b off : Nat} {l : List O} (h : OsAt w b off l) (hb : Below B w w') (hB : b < B) : OsAt w' b off l :=
 ⟨Nat.lt_of_lt_of_le h.1 hb.size, fun i hi => (h.2 i hi).below hb hB⟩
theorem IsO.below {w w' : World} {x : Value} {l : List O} (h : IsO w x l) (hb : Below w.heap.size w w') : IsO w' x l := by
 obtain ⟨a, cap, rfl, h1, h2, h⟩ := h
 exact ⟨a, cap, rfl, h1, h2, h.imp id (fun ⟨b, off, e, h⟩ => ⟨b, off, e, h.below hb h.1⟩)⟩
theorem RowF.isO {F : Nat → Prop} {w : World} {x : Value} {l : List O} (h : RowF F w x l.length 4 (cellsO l)) : IsO w x l := by
 obtain ⟨hl, a, cap, rfl, h1, h2, h⟩ := h
 refine ⟨a, cap, rfl, h1, h2, h.imp List.eq_nil_of_length_eq_zero ?_⟩
 rintro ⟨g, rfl, hF, hg, hc⟩
 refine ⟨g, 0, rfl, hg, fun i hi => ?_⟩
 have hget : ∀ r, r < 4 → w.cell? ⟨g, 0 + i * 4 + r, none⟩ = (oAt l i).cs[r]? := fun r hr => by
  rw [← cellsO_get l i r hi hr, Nat.zero_add]
  exact (hc _ (by omega)).1
 exact ⟨hget 0 (by omega), hget 1 (by omega), hget 2 (by omega), hget 3 (by omega)⟩
theorem RowF.isEvs {F : Nat → Prop} {w : World} {x : Value} {l : List Ev} (h : RowF F w x l.length 7 (cellsL l)) : IsEvs w x l := by
 obtain ⟨hl, a, cap, rfl, h1, h2, h⟩ := h
 refine ⟨a, cap, rfl, h1, h2, h.imp List.eq_nil_of_length_eq_zero ?_⟩
 rintro ⟨g, rfl, hF, hg, hc⟩
 refine ⟨g, 0, rfl, hg, fun i hi => ?_⟩
 have hget : ∀ r, r < 7 → w.cell? ⟨g, 0 + i * 7 + r, none⟩ = (evAt l i).cs[r]? := fun r hr => by
  rw [← cellsL_get l i r hi hr, Nat.zero_add]
  exact (hc _ (by omega)).1
 exact ⟨hget 0 (by omega), hget 1 (by omega), hget 2 (by omega), hget 3 (by omega), hget 4 (by omega), hget 5 (by omega), hget 6 (by omega)⟩
def IsH (w : World) (x : Value) (l : List (List O)) : Prop := ∃ a cap, x = .slice a l.length cap ∧ l.length ≤ cap ∧ cap ≤ maxLen ∧
 (l = [] ∨ ∃ b off, a = some ⟨b, off, none⟩ ∧ b < w.heap.size ∧ ∀ i, i < l.length → ∃ u, w.cell? ⟨b, off + i, none⟩ = some u ∧ IsO w u (hAt l i))
theorem IsH.below {w w' : World} {x : Value} {l : List (List O)} (h : IsH w x l) (hb : Below w.heap.size w w') : IsH w' x l := by
 obtain ⟨a, cap, rfl, h1, h2, h⟩ := h
 exact ⟨a, cap, rfl, h1, h2, h.imp id (fun ⟨b, off, e, hB, h⟩ => ⟨b, off, e, Nat.lt_of_lt_of_le hB hb.size, fun i hi => by
  obtain ⟨u, hu, ho⟩ := h i hi
  exact ⟨u, (hb.cell (p := ⟨b, off + i, none⟩) hB).trans hu, ho.below hb⟩⟩)⟩
def RowsF (F : Nat → Prop) (w : World) (x : Value) (n : Nat) (U : Nat → Value) (L : Nat → Nat) (C : Nat → List Value) : Prop :=
 ∃ (F0 : Nat → Prop) (G : Nat → Nat → Prop), RowF F0 w x n 1 ((List.range n).map U) ∧ (∀ k, F0 k → F k) ∧
  (∀ i, i < n → RowF (G i) w (U i) (L i) 4 (C i) ∧ ∀ k, G i k → F k ∧ ¬ F0 k) ∧ ∀ i j, i < n → j < n → i ≠ j → ∀ k, G i k → ¬ G j k
theorem RowsF.turns {F S : Nat → Prop} {w w' : World} {x : Value} {n : Nat} {U : Nat → Value} {L : Nat → Nat} {C : Nat → List Value} (h : RowsF F w x n U L C) (ht : Turns S w w') (hS : ∀ k, F k → ¬ S k) : RowsF F w' x n U L C := by
 obtain ⟨F0, G, h0, hF, h1, h2⟩ := h
 exact ⟨F0, G, h0.turns ht (fun k hk => hS k (hF k hk)), hF, fun i hi => ⟨(h1 i hi).1.turns ht (fun k hk => hS k ((h1 i hi).2 k hk).1), (h1 i hi).2⟩, h2⟩
theorem RowsF.below {F : Nat → Prop} {w w' : World} {x : Value} {n : Nat} {U : Nat → Value} {L : Nat → Nat} {C : Nat → List Value} (h : RowsF F w x n U L C) (hb : Below w.heap.size w w') : RowsF F w' x n U L C :=
 h.turns (S := fun _ => False) (Turns.of_below hb) (fun _ _ => id)
def HsF (F : Nat → Prop) (w : World) (x : Value) (l : List (List O)) : Prop := ∃ U, RowsF F w x l.length U (fun i => (hAt l i).length) (fun i => cellsO (hAt l i))
theorem HsF.isH {F : Nat → Prop} {w : World} {x : Value} {l : List (List O)} (h : HsF F w x l) : IsH w x l := by
 obtain ⟨U, F0, G, ⟨hl, a, cap, rfl, h1, h2, h⟩, hF, h3, _⟩ := h
 refine ⟨a, cap, rfl, h1, h2, h.imp List.eq_nil_of_length_eq_zero ?_⟩
 rintro ⟨g, rfl, _, hg, hc⟩
 refine ⟨g, 0, rfl, hg, fun i hi => ⟨U i, ?_, (h3 i hi).1.isO⟩⟩
 rw [Nat.zero_add, (hc i (by omega)).1]
 simp [hi]
def IsM (w : World) (x : Value) (m : Md) : Prop := ∃ vi vh vs, x = .agg #[.int .i64 m.n, .int .i64 m.s, vi, vh, vs, .int .i64 m.z] ∧ IsI w vi m.i ∧ IsH w vh m.h ∧ IsEvs w vs m.e
theorem IsM.below {w w' : World} {x : Value} {m : Md} (h : IsM w x m) (hb : Below w.heap.size w w') : IsM w' x m := by
 obtain ⟨vi, vh, vs, rfl, h1, h2, h3⟩ := h
 exact ⟨vi, vh, vs, rfl, h1.below hb, h2.below hb, h3.below hb⟩
def MdF (F : Nat → Prop) (w : World) (x : Value) (m : Md) : Prop :=
 ∃ (A B C : Nat → Prop) (vi vh vs : Value), x = .agg #[.int .i64 m.n, .int .i64 m.s, vi, vh, vs, .int .i64 m.z] ∧ RowF A w vi m.i.length 1 (intCells m.i) ∧ HsF B w vh m.h ∧ RowF C w vs m.e.length 7 (cellsL m.e) ∧
  (∀ k, A k → F k ∧ ¬ B k ∧ ¬ C k) ∧ (∀ k, B k → F k ∧ ¬ C k) ∧ ∀ k, C k → F k
theorem MdF.isM {F : Nat → Prop} {w : World} {x : Value} {m : Md} (h : MdF F w x m) : IsM w x m := by
 obtain ⟨A, B, C, vi, vh, vs, rfl, h1, h2, h3, _⟩ := h
 exact ⟨vi, vh, vs, rfl, h1.isI, h2.isH, h3.isEvs⟩
theorem MdF.turns {F S : Nat → Prop} {w w' : World} {x : Value} {m : Md} (h : MdF F w x m) (ht : Turns S w w') (hS : ∀ k, F k → ¬ S k) : MdF F w' x m := by
 obtain ⟨A, B, C, vi, vh, vs, rfl, h1, ⟨U, h2⟩, h3, h4, h5, h6⟩ := h
 exact ⟨A, B, C, vi, vh, vs, rfl, h1.turns ht (fun k hk => hS k (h4 k hk).1), ⟨U, h2.turns ht (fun k hk => hS k (h5 k hk).1)⟩, h3.turns ht (fun k hk => hS k (h6 k hk)), h4, h5, h6⟩
theorem MdF.below {F : Nat → Prop} {w w' : World} {x : Value} {m : Md} (h : MdF F w x m) (hb : Below w.heap.size w w') : MdF F w' x m :=
 h.turns (S := fun _ => False) (Turns.of_below hb) (fun _ _ => id)
end Go.Proofs.YtnccenbkpocjgaaGreat

/- toIntS: a row of one's own. -/
namespace Go.Proofs.YtnccenbkpocjgaaGreat
open Go.RowKit
def RowI (w : World) (g : Nat) (l : List Int) : Prop := g < w.heap.size ∧ ∀ j, j < l.length → w.cell? ⟨g, j, none⟩ = some (.int .i64 (intAt l j)) ∧ w.frozen? ⟨g, j, none⟩ = false
abbrev sl (g n : Nat) : Value := .slice (some ⟨g, 0, none⟩) n n
def FillI (w : World) (g n : Nat) (l : List Int) (k : Nat) : Prop := g < w.heap.size ∧ (∀ j, j < n → (w.cell? ⟨g, j, none⟩).isSome = true ∧ w.frozen? ⟨g, j, none⟩ = false) ∧ ∀ i, i < k → w.cell? ⟨g, i, none⟩ = some (.int .i64 (intAt l i))
theorem FillI.row {w : World} {g : Nat} {l : List Int} (h : FillI w g l.length l l.length) : RowI w g l := ⟨h.1, fun j hj => ⟨h.2.2 j hj, (h.2.1 j hj).2⟩⟩
theorem FillI.put {w : World} {g n k : Nat} {l : List Int} (h : FillI w g n l k) (hk : k < n) : FillI (w.setCell ⟨g, k, none⟩ (.int .i64 (intAt l k))) g n l (k + 1) := by
 have e1 : w.setCell ⟨g, k, none⟩ (.int .i64 (intAt l k)) = w.setCells g k [.int .i64 (intAt l k)] := rfl
 have hsame : ∀ j, j ≠ k → (w.setCell ⟨g, k, none⟩ (.int .i64 (intAt l k))).cell? ⟨g, j, none⟩ = w.cell? ⟨g, j, none⟩ := fun j hj => by
  rw [e1]
  exact World.cell?_setCells_out g _ k w ⟨g, j, none⟩ (fun _ _ => by simp; omega)
 have hat : (w.setCell ⟨g, k, none⟩ (.int .i64 (intAt l k))).cell? ⟨g, k, none⟩ = some (.int .i64 (intAt l k)) := by
  rw [e1]
  have h0 := World.cell?_setCells_in g [.int .i64 (intAt l k)] k w (fun j hj => by
   obtain rfl : j = 0 := by simpa using hj
   exact (h.2.1 k hk).1) 0 (by simp)
  simpa using h0
 refine ⟨by simpa using h.1, fun j hj => ?_, fun i hi => ?_⟩
 ·refine ⟨?_, ?_⟩
  ·by_cases e : j = k
   ·subst e; rw [hat]; rfl
   ·rw [hsame j e]; exact (h.2.1 j hj).1
  ·rw [e1, World.frozen?_setCells]; exact (h.2.1 j hj).2
 ·by_cases e : i = k
  ·subst e; exact hat
  ·rw [hsame i e]; exact h.2.2 i (by omega)
theorem FillI.made {w1 : World} {B : Nat} {z : List Value} {n : Nat} {l : List Int} (h : w1.ownsRow B 3 1 (.slice (some ⟨B, 0, none⟩) n n) n z) : FillI w1 B n l 0 := by
 obtain ⟨hl, h | ⟨g, cap, cur, e, hg, hc, h1, h2, h3, h4⟩⟩ := h
 ·simp at h
 ·simp at e
  obtain ⟨rfl, rfl⟩ := e
  have hlt : B < w1.heap.size := (Array.getElem?_eq_some_iff.1 hc).1
  refine ⟨hlt, fun j hj => ?_, fun i hi => by omega⟩
  have hj2 : j < cur.size := by omega
  simp [World.cell?, World.frozen?, hc, hj2]
theorem info3 : (Tryz.prog.info? 3).map (fun i => (i.zero, i.size, i.bytes)) = some (some (.int .i64 0), 1, 8) := by kernel_rfl
theorem info_parts {i : TypeId} {z : Option Value} {s b : Nat} (h : (Tryz.prog.info? i).map (fun i => (i.zero, i.size, i.bytes)) = some (z, s, b)) : ∃ i0, Tryz.prog.info? i = some i0 ∧ i0.zero = z ∧ i0.size = s ∧ i0.bytes = b := by
 obtain ⟨i0, h1, h2⟩ := Option.map_eq_some_iff.1 h
 simp only [Prod.mk.injEq] at h2
 exact ⟨i0, h1, h2.1, h2.2.1, h2.2.2⟩
set_option maxHeartbeats 1000000 in
theorem toI_any (x : Value) (l : List Int) (w : World) (hl : l.length ≤ 1048576) (h : IsI w x l) :
  Calls Tryz.prog 27 #[x] w fun e w' => e = .returned (sl w.heap.size l.length) ∧ Below w.heap.size w w' ∧ RowI w' w.heap.size l := by
 obtain ⟨a, cap, rfl, h1, h2, h⟩ := h
 rcases h with rfl | ⟨b, off, rfl, hb, h⟩
 ·obtain ⟨i0, hi, hz0, hz1, hz2⟩ := info_parts info3
  go_enter Tryz.func27, Tryz.ntmps27
  go_wp2_with (at_make; refine wpList_make_full _ rfl _ _ 22 rfl w.heap.size 3 i0 _ 1 Tryz.underlying22 hi hz0 hz1 .i64 .i64 0 0 0 rfl rfl rfl rfl (by rw [hz2]; omega) (by unfold maxLen; omega) (Nat.le_refl _) ?_; intro w1 hown hgrow)
  have hB1 : Below w.heap.size w w1 := (Below.refl _ _).grown hgrow (Nat.le_refl _) (fun k e => by cases e)
  have hR1 : RowI w1 w.heap.size [] := (FillI.made (n := 0) (l := []) hown).row
  clear hown hgrow hi hz0 hz1 hz2
  go_loop [4] (fun i => i = .int .i64 0) (fun _ => 0)
  case atStart => rfl
  case round =>
   subst hrel
   go_wp2
   go_ret
   exact ⟨rfl, hB1, hR1⟩
 ·have hp : (0 : Int) ≤ (l.length : Int) := by omega
  obtain ⟨i0, hi, hz0, hz1, hz2⟩ := info_parts info3
  go_enter Tryz.func27, Tryz.ntmps27
  go_wp2_with (at_make; refine wpList_make_full _ rfl _ _ 22 rfl w.heap.size 3 i0 _ 1 Tryz.underlying22 hi hz0 hz1 .i64 .i64 l.length l.length l.length rfl rfl rfl rfl (by rw [hz2]; omega) (by unfold maxLen; omega) (Nat.le_refl _) ?_; intro w1 hown hgrow)
  have hB1 : Below w.heap.size w w1 := (Below.refl _ _).grown hgrow (Nat.le_refl _) (fun k e => by cases e)
  have hR1 : FillI w1 w.heap.size l.length l 0 := FillI.made hown
  clear hown hgrow hi hz0 hz1 hz2
  go_loopw [4] (fun i wr => ∃ k : Nat, k ≤ l.length ∧ i = .int .i64 k ∧ Below w.heap.size w wr ∧ FillI wr w.heap.size l.length l k) (fun i _ => l.length - (intOf i).toNat)
  case atStart => exact ⟨0, Nat.zero_le _, rfl, hB1, hR1⟩
  case round =>
   obtain ⟨k, hk, rfl, hB, hR⟩ := hrel
   have HB : Hid (Below w.heap.size w wr) := hB
   have HR : Hid (FillI wr w.heap.size l.length l k) := hR
   by_cases hlt : k < l.length
   ·have f0 := (hB.cell (p := ⟨b, off + k, none⟩) hb).trans (h k hlt)
    obtain ⟨v, hv⟩ := Option.isSome_iff_exists.1 (hR.2.1 k hlt).1
    have hf := (hR.2.1 k hlt).2
    clear hB hR hB1 hR1 h
    go_wp2
    go_roundw
    case rel => exact ⟨k + 1, by omega, by go_num, HB.out.setCell (Nat.le_refl _) _, HR.out.put hlt⟩
    case measure => simp [intOf]; omega
   ·clear hB hR hB1 hR1 h
    go_wp2
    go_ret
    obtain rfl : k = l.length := by omega
    exact ⟨rfl, HB.out, HR.out.row⟩
end Go.Proofs.YtnccenbkpocjgaaGreat

