/- NTurn, MBox, SqA, Pure, NInts, MPure, Base, Kit, Evs -/
import Derived.Test.YthfhibnnkpbeiaaGreatRows
import Derived.WalkKit
import Derived.Below
import Derived.OwnWalk
import Derived.Deep.RegionHeld3
import Derived.WalkSpells
import Derived.WalkLawsBesides
import Derived.Outline
/- What turns, and what stays as it was. -/
namespace Go.Proofs.YthfhibnnkpbeiaaGreat
open Go.RowKit
structure Turns (S : Nat → Prop) (w w' : World) : Prop where
 os : w'.os = w.os
 tape : w'.tape = w.tape
 output : w'.output = w.output
 size : w.heap.size ≤ w'.heap.size
 block : ∀ k, k < w.heap.size → ¬ S k → w'.heap[k]? = w.heap[k]?
theorem Turns.refl (S : Nat → Prop) (w : World) : Turns S w w := ⟨rfl, rfl, rfl, Nat.le_refl _, fun _ _ _ => rfl⟩
theorem Turns.trans {S : Nat → Prop} {a b c : World} (h : Turns S a b) (k : Turns S b c) : Turns S a c :=
 ⟨k.os.trans h.os, k.tape.trans h.tape, k.output.trans h.output, Nat.le_trans h.size k.size, fun i hi hS => (k.block i (Nat.lt_of_lt_of_le hi h.size) hS).trans (h.block i hi hS)⟩
theorem Turns.of_below {S : Nat → Prop} {w w' : World} (h : Below w.heap.size w w') : Turns S w w' := ⟨h.os, h.tape, h.output, h.size, fun k hk _ => h.block k hk⟩
theorem Turns.to_below {S : Nat → Prop} {w w' : World} {B : Nat} (h : Turns S w w') (hS : ∀ k, S k → B ≤ k) (hB : B ≤ w.heap.size) : Below B w w' :=
 ⟨h.os, h.tape, h.output, h.size, fun k hk => h.block k (by omega) (fun e => by have := hS k e; omega)⟩
theorem Turns.mono {S S' : Nat → Prop} {w w' : World} (h : Turns S w w') (hS : ∀ k, S k → S' k) : Turns S' w w' := ⟨h.os, h.tape, h.output, h.size, fun k hk hn => h.block k hk (fun e => hn (hS k e))⟩
theorem Turns.alloc {S : Nat → Prop} {a w : World} (h : Turns S a w) (o : Obj) : Turns S a (w.alloc o) := h.trans (Turns.of_below ((Below.refl _ w).alloc (Nat.le_refl _) o))
theorem Turns.setCell {S : Nat → Prop} {a w : World} (h : Turns S a w) {p : Addr} (hp : S p.block) (u : Value) : Turns S a (w.setCell p u) :=
 h.trans ⟨rfl, rfl, rfl, by simp [World.setCell], fun k _ hk => Below.heap_setCell _ _ _ _ (fun e => hk (e ▸ hp))⟩
theorem Turns.cell {S : Nat → Prop} {w w' : World} (h : Turns S w w') {b o : Nat} (hb : b < w.heap.size) (hS : ¬ S b) : w'.cell? ⟨b, o, none⟩ = w.cell? ⟨b, o, none⟩ := World.cell?_of_block (w := w) (h.block b hb hS)
theorem Turns.frozen {S : Nat → Prop} {w w' : World} (h : Turns S w w') {b o : Nat} (hb : b < w.heap.size) (hS : ¬ S b) : w'.frozen? ⟨b, o, none⟩ = w.frozen? ⟨b, o, none⟩ := World.frozen?_of_block (w := w) (h.block b hb hS)
end Go.Proofs.YthfhibnnkpbeiaaGreat

/- A struct in a block of its own. -/
namespace Go.Proofs.YthfhibnnkpbeiaaGreat
open Go.RowKit
def Bk (w : World) (P : Nat) (T : TypeId) (vs : Array Value) : Prop := w.heap[P]? = some (.cells vs T)
theorem Bk.lt {w : World} {P : Nat} {T : TypeId} {vs : Array Value} (h : Bk w P T vs) : P < w.heap.size := (Array.getElem?_eq_some_iff.1 h).1
theorem Bk.cell {w : World} {P : Nat} {T : TypeId} {vs : Array Value} (h : Bk w P T vs) {i : Nat} {v : Value} (hv : vs[i]? = some v) : w.cell? ⟨P, i, none⟩ = some v := by
 have h' : w.heap[P]? = some (.cells vs T) := h
 unfold World.cell?
 simp [h', hv]
theorem Bk.free {w : World} {P : Nat} {T : TypeId} {vs : Array Value} (h : Bk w P T vs) (o : Nat) : w.frozen? ⟨P, o, none⟩ = false := by
 have h' : w.heap[P]? = some (.cells vs T) := h
 unfold World.frozen?
 simp [h']
theorem Bk.keep {w w' : World} {B P : Nat} {T : TypeId} {vs : Array Value} (h : Bk w P T vs) (hb : Below B w w') (hB : P < B) : Bk w' P T vs := (hb.block P hB).trans h
theorem Bk.below {w w' : World} {P : Nat} {T : TypeId} {vs : Array Value} (h : Bk w P T vs) (hb : Below w.heap.size w w') : Bk w' P T vs := h.keep hb h.lt
theorem Bk.turns {S : Nat → Prop} {w w' : World} {P : Nat} {T : TypeId} {vs : Array Value} (h : Bk w P T vs) (ht : Turns S w w') (hS : ¬ S P) : Bk w' P T vs := (ht.block P h.lt hS).trans h
theorem Bk.drew {w : World} {P : Nat} {T : TypeId} {vs : Array Value} (h : Bk w P T vs) : Bk w.drew P T vs := h
theorem Bk.new (w : World) (T : TypeId) (vs : Array Value) : Bk (w.alloc (.cells vs T)) w.heap.size T vs := by
 show (w.heap.push _)[w.heap.size]? = _
 simp
theorem Bk.newAt {w : World} {P : Nat} (hP : P = w.heap.size) (T : TypeId) (vs : Array Value) : Bk (w.alloc (.cells vs T)) P T vs := hP ▸ Bk.new w T vs
theorem Bk.alloc {w : World} {P : Nat} {T : TypeId} {vs : Array Value} (h : Bk w P T vs) (o : Obj) : Bk (w.alloc o) P T vs := h.keep ((Below.refl w.heap.size w).alloc (Nat.le_refl _) o) h.lt
theorem Bk.put {w : World} {P : Nat} {T : TypeId} {vs : Array Value} (h : Bk w P T vs) (i : Nat) (v : Value) : Bk (w.setCell ⟨P, i, none⟩ v) P T (vs.setIfInBounds i v) := by
 have h' : w.heap[P]? = some (.cells vs T) := h
 obtain ⟨hl, hv⟩ := Array.getElem?_eq_some_iff.1 h'
 unfold Bk
 simp [World.setCell, hl, Array.getElem_modify, hv]
theorem Bk.other {w : World} {P b : Nat} {T : TypeId} {vs : Array Value} (h : Bk w P T vs) (i : Nat) (v : Value) (hb : P ≠ b) : Bk (w.setCell ⟨b, i, none⟩ v) P T vs :=
 (Below.heap_setCell _ _ _ _ hb).trans h
theorem put1_turns (w : World) (g o : Nat) (u : Value) : Turns (fun b => b = g) w (w.setCell ⟨g, o, none⟩ u) := (Turns.refl (fun b => b = g) w).setCell (p := ⟨g, o, none⟩) rfl _
abbrev put6 (w : World) (R : Nat) (v0 v1 v2 v3 v4 v5 : Value) : World :=
 (((((w.setCell ⟨R, 0, none⟩ v0).setCell ⟨R, 1, none⟩ v1).setCell ⟨R, 2, none⟩ v2).setCell ⟨R, 3, none⟩ v3).setCell ⟨R, 4, none⟩ v4).setCell ⟨R, 5, none⟩ v5
theorem Bk.put6 {w : World} {R : Nat} {T : TypeId} {a0 a1 a2 a3 a4 a5 : Value} (h : Bk w R T #[a0, a1, a2, a3, a4, a5]) (v0 v1 v2 v3 v4 v5 : Value) : Bk (put6 w R v0 v1 v2 v3 v4 v5) R T #[v0, v1, v2, v3, v4, v5] :=
 (((((h.put 0 v0).put 1 v1).put 2 v2).put 3 v3).put 4 v4).put 5 v5
theorem put6_turns (w : World) (R : Nat) (v0 v1 v2 v3 v4 v5 : Value) : Turns (fun b => b = R) w (put6 w R v0 v1 v2 v3 v4 v5) :=
 (((((put1_turns w R 0 v0).trans (put1_turns _ R 1 v1)).trans (put1_turns _ R 2 v2)).trans (put1_turns _ R 3 v3)).trans (put1_turns _ R 4 v4)).trans (put1_turns _ R 5 v5)
end Go.Proofs.YthfhibnnkpbeiaaGreat

/- Cells of a struct's block at once; short names. -/
namespace Go.Proofs.YthfhibnnkpbeiaaGreat
open Go.RowKit
theorem c3_3 {w : World} {P : Nat} {T : TypeId} {a0 a1 a2 : Value} (h : Bk w P T #[a0, a1, a2]) : w.cell? ⟨P, 0, none⟩ = some a0 ∧ w.cell? ⟨P, 1, none⟩ = some a1 ∧ w.cell? ⟨P, 2, none⟩ = some a2 := ⟨h.cell rfl, h.cell rfl, h.cell rfl⟩
theorem c3_6 {w : World} {P : Nat} {T : TypeId} {a0 a1 a2 a3 a4 a5 : Value} (h : Bk w P T #[a0, a1, a2, a3, a4, a5]) : w.cell? ⟨P, 0, none⟩ = some a0 ∧ w.cell? ⟨P, 1, none⟩ = some a1 ∧ w.cell? ⟨P, 2, none⟩ = some a2 := ⟨h.cell rfl, h.cell rfl, h.cell rfl⟩
theorem c4_4 {w : World} {P : Nat} {T : TypeId} {a0 a1 a2 a3 : Value} (h : Bk w P T #[a0, a1, a2, a3]) : w.cell? ⟨P, 0, none⟩ = some a0 ∧ w.cell? ⟨P, 1, none⟩ = some a1 ∧ w.cell? ⟨P, 2, none⟩ = some a2 ∧ w.cell? ⟨P, 3, none⟩ = some a3 := ⟨h.cell rfl, h.cell rfl, h.cell rfl, h.cell rfl⟩
theorem c6_6 {w : World} {P : Nat} {T : TypeId} {a0 a1 a2 a3 a4 a5 : Value} (h : Bk w P T #[a0, a1, a2, a3, a4, a5]) : w.cell? ⟨P, 0, none⟩ = some a0 ∧ w.cell? ⟨P, 1, none⟩ = some a1 ∧ w.cell? ⟨P, 2, none⟩ = some a2 ∧ w.cell? ⟨P, 3, none⟩ = some a3 ∧ w.cell? ⟨P, 4, none⟩ = some a4 ∧ w.cell? ⟨P, 5, none⟩ = some a5 := ⟨h.cell rfl, h.cell rfl, h.cell rfl, h.cell rfl, h.cell rfl, h.cell rfl⟩
theorem c6_8 {w : World} {P : Nat} {T : TypeId} {a0 a1 a2 a3 a4 a5 a6 a7 : Value} (h : Bk w P T #[a0, a1, a2, a3, a4, a5, a6, a7]) : w.cell? ⟨P, 0, none⟩ = some a0 ∧ w.cell? ⟨P, 1, none⟩ = some a1 ∧ w.cell? ⟨P, 2, none⟩ = some a2 ∧ w.cell? ⟨P, 3, none⟩ = some a3 ∧ w.cell? ⟨P, 4, none⟩ = some a4 ∧ w.cell? ⟨P, 5, none⟩ = some a5 := ⟨h.cell rfl, h.cell rfl, h.cell rfl, h.cell rfl, h.cell rfl, h.cell rfl⟩
theorem c7_7 {w : World} {P : Nat} {T : TypeId} {a0 a1 a2 a3 a4 a5 a6 : Value} (h : Bk w P T #[a0, a1, a2, a3, a4, a5, a6]) : w.cell? ⟨P, 0, none⟩ = some a0 ∧ w.cell? ⟨P, 1, none⟩ = some a1 ∧ w.cell? ⟨P, 2, none⟩ = some a2 ∧ w.cell? ⟨P, 3, none⟩ = some a3 ∧ w.cell? ⟨P, 4, none⟩ = some a4 ∧ w.cell? ⟨P, 5, none⟩ = some a5 ∧ w.cell? ⟨P, 6, none⟩ = some a6 := ⟨h.cell rfl, h.cell rfl, h.cell rfl, h.cell rfl, h.cell rfl, h.cell rfl, h.cell rfl⟩
theorem c8_8 {w : World} {P : Nat} {T : TypeId} {a0 a1 a2 a3 a4 a5 a6 a7 : Value} (h : Bk w P T #[a0, a1, a2, a3, a4, a5, a6, a7]) : w.cell? ⟨P, 0, none⟩ = some a0 ∧ w.cell? ⟨P, 1, none⟩ = some a1 ∧ w.cell? ⟨P, 2, none⟩ = some a2 ∧ w.cell? ⟨P, 3, none⟩ = some a3 ∧ w.cell? ⟨P, 4, none⟩ = some a4 ∧ w.cell? ⟨P, 5, none⟩ = some a5 ∧ w.cell? ⟨P, 6, none⟩ = some a6 ∧ w.cell? ⟨P, 7, none⟩ = some a7 := ⟨h.cell rfl, h.cell rfl, h.cell rfl, h.cell rfl, h.cell rfl, h.cell rfl, h.cell rfl, h.cell rfl⟩
theorem c14_14 {w : World} {P : Nat} {T : TypeId} {a0 a1 a2 a3 a4 a5 a6 a7 a8 a9 a10 a11 a12 a13 : Value} (h : Bk w P T #[a0, a1, a2, a3, a4, a5, a6, a7, a8, a9, a10, a11, a12, a13]) : w.cell? ⟨P, 0, none⟩ = some a0 ∧ w.cell? ⟨P, 1, none⟩ = some a1 ∧ w.cell? ⟨P, 2, none⟩ = some a2 ∧ w.cell? ⟨P, 3, none⟩ = some a3 ∧ w.cell? ⟨P, 4, none⟩ = some a4 ∧ w.cell? ⟨P, 5, none⟩ = some a5 ∧ w.cell? ⟨P, 6, none⟩ = some a6 ∧ w.cell? ⟨P, 7, none⟩ = some a7 ∧ w.cell? ⟨P, 8, none⟩ = some a8 ∧ w.cell? ⟨P, 9, none⟩ = some a9 ∧ w.cell? ⟨P, 10, none⟩ = some a10 ∧ w.cell? ⟨P, 11, none⟩ = some a11 ∧ w.cell? ⟨P, 12, none⟩ = some a12 ∧ w.cell? ⟨P, 13, none⟩ = some a13 := ⟨h.cell rfl, h.cell rfl, h.cell rfl, h.cell rfl, h.cell rfl, h.cell rfl, h.cell rfl, h.cell rfl, h.cell rfl, h.cell rfl, h.cell rfl, h.cell rfl, h.cell rfl, h.cell rfl⟩
theorem q0 (a : Act) (d : Tmp) (v : Value) : a.put (some d) v = { a with tmps := a.tmps.setIfInBounds d v } := rfl
theorem q9 (a : Act) (v : Value) : a.put none v = a := rfl
theorem q1 {α : Type} (l : List α) (i : Nat) (a : α) : l.toArray.setIfInBounds i a = (l.set i a).toArray := List.setIfInBounds_toArray l i a
theorem q2 {α : Type} (x : α) (l : List α) (a : α) : (x :: l).set 0 a = a :: l := List.set_cons_zero
theorem q3 {α : Type} (x : α) (l : List α) (i : Nat) (a : α) : (x :: l).set (i + 1) a = x :: l.set i a := List.set_cons_succ
end Go.Proofs.YthfhibnnkpbeiaaGreat

/- Events and heaps of them as plain lists: lifting, sinking, taking out; what the library does and what the document says come to the same. -/
namespace Go.Proofs.YthfhibnnkpbeiaaGreat
def okB (t s q d k v g : Int) : Bool := decide (0 ≤ t ∧ t ≤ 1000 ∧ -1 ≤ s ∧ s ≤ 3 ∧ 0 ≤ q ∧ q ≤ 100000 ∧ 0 ≤ d ∧ d ≤ 3 ∧ 0 ≤ k ∧ k ≤ 3 ∧ 0 ≤ v ∧ v ≤ 999 ∧ 0 ≤ g ∧ g ≤ 100000)
def num (a b : Int) : Int := if a < b then -1 else if b < a then 1 else 0
def cmpI (t s q g t' s' q' g' : Int) : Int := if t ≠ t' then num t t' else if s ≠ s' then num s s' else if q ≠ q' then num q q' else num g g'
structure Ev where
 t : Int
 s : Int
 q : Int
 d : Int
 k : Int
 v : Int
 g : Int
def evAt (l : List Ev) (i : Nat) : Ev := l.getD i ⟨0, 0, 0, 0, 0, 0, 0⟩
def Ev.ok (e : Ev) : Bool := okB e.t e.s e.q e.d e.k e.v e.g
def Ev.cmp (a b : Ev) : Int := cmpI a.t a.s a.q a.g b.t b.s b.q b.g
theorem cmpI_lt (t s q g t' s' q' g' : Int) : cmpI t s q g t' s' q' g' < 0 ↔ t < t' ∨ (t = t' ∧ (s < s' ∨ (s = s' ∧ (q < q' ∨ (q = q' ∧ g < g'))))) := by
 unfold cmpI num
 split
 ·split
  ·omega
  ·split <;> omega
 ·split
  ·split
   ·omega
   ·split <;> omega
  ·split
   ·split
    ·omega
    ·split <;> omega
   ·split
    ·omega
    ·split <;> omega
theorem evAt_drop (l : List Ev) (k i : Nat) : evAt (l.drop k) i = evAt l (k + i) := by simp [evAt]
end Go.Proofs.YthfhibnnkpbeiaaGreat

/- Rows of numbers: eqIntS where both sides are the same, markIntS, heldIntS. -/
namespace Go.Proofs.YthfhibnnkpbeiaaGreat
open Go.RowKit
theorem hidNInts {p : Prop} (h : p) : Hid p := h
def intAt (l : List Int) (i : Nat) : Int := l.getD i 0
def intCells (l : List Int) : List Value := l.map (Value.int .i64)
def IntsAt (w : World) (b off : Nat) (l : List Int) : Prop := b < w.heap.size ∧ ∀ i, i < l.length → w.cell? ⟨b, off + i, none⟩ = some (.int .i64 (intAt l i))
def IsI (w : World) (x : Value) (l : List Int) : Prop := ∃ a cap, x = .slice a l.length cap ∧ l.length ≤ cap ∧ cap ≤ maxLen ∧ (l = [] ∨ ∃ b off, a = some ⟨b, off, none⟩ ∧ IntsAt w b off l)
theorem IntsAt.below {w w' : World} {B b off : Nat} {l : List Int} (h : IntsAt w b off l) (hb : Below B w w') (hB : b < B) : IntsAt w' b off l :=
 ⟨Nat.lt_of_lt_of_le h.1 hb.size, fun i hi => (hb.cell hB).trans (h.2 i hi)⟩
theorem IsI.below {w w' : World} {x : Value} {l : List Int} (h : IsI w x l) (hb : Below w.heap.size w w') : IsI w' x l := by
 obtain ⟨a, cap, rfl, h1, h2, h⟩ := h
 exact ⟨a, cap, rfl, h1, h2, h.imp id (fun ⟨b, off, e, h⟩ => ⟨b, off, e, h.below hb h.1⟩)⟩
theorem grown_refl (w : World) (row : Option Nat) : w.grownBy w row := ⟨rfl, rfl, rfl, Nat.le_refl _, fun _ _ _ => rfl⟩
set_option maxHeartbeats 2000000 in
theorem eqI_same (x y : Value) (l : List Int) (w : World) (hl : l.length ≤ 4611686018427387904) (hx : IsI w x l) (hy : IsI w y l) :
  Calls Tryz.prog 12 #[x, y] w fun e w' => e = .returned (.bool true) ∧ Below w.heap.size w w' := by
 obtain ⟨a, cap, rfl, h1, h2, h⟩ := hx
 obtain ⟨a', cap', rfl, h1', h2', h'⟩ := hy
 clear h1 h2 h1' h2'
 by_cases hz : l = []
 ·subst hz
  clear h h'
  go_enter Tryz.func12, Tryz.ntmps12
  go_wp2
  go_loop [5] (fun i => i = .int .i64 0) (fun _ => 0)
  case atStart => rfl
  case round =>
   subst hrel
   go_wp2
   go_ret
   exact ⟨rfl, Below.refl _ _⟩
 ·obtain ⟨b, off, rfl, hb, hc⟩ := h.resolve_left hz
  obtain ⟨b', off', rfl, hb', hc'⟩ := h'.resolve_left hz
  clear h h' hz
  go_enter Tryz.func12, Tryz.ntmps12
  go_wp2
  go_loopw [5] (fun i wr => ∃ k : Nat, k ≤ l.length ∧ i = .int .i64 k ∧ Below w.heap.size w wr) (fun i _ => l.length - (intOf i).toNat)
  case atStart => exact ⟨0, Nat.zero_le _, rfl, Below.refl _ _⟩
  case round =>
   obtain ⟨k, hk, rfl, hB⟩ := hrel
   have HB := hidNInts hB
   by_cases hlt : k < l.length
   ·have f0 := (hB.cell (p := ⟨b, off + k, none⟩) hb).trans (hc k hlt)
    have e0 := (hB.cell (p := ⟨b', off' + k, none⟩) hb').trans (hc' k hlt)
    generalize intAt l k = z at f0 e0
    clear hB hc hc'
    go_wp2_with fail
    go_region_held3 (fun W => W.cell? ⟨b, off + k, none⟩ = some (.int .i64 z) ∧ W.cell? ⟨b', off' + k, none⟩ = some (.int .i64 z)) ((repeat' apply And.intro) <;> go_keep) (fail)
    go_wp2
    go_roundw
    case rel => exact ⟨k + 1, by omega, by go_num, HB.out.drew⟩
    case measure => simp [intOf]; omega
   ·clear hB hc hc'
    go_wp2
    go_ret
    exact ⟨rfl, HB.out⟩
def OwnI (B : Nat) (w : World) (x : Value) (l : List Int) : Prop := ∃ a cap, x = .slice a l.length cap ∧ l.length ≤ cap ∧ cap ≤ maxLen ∧ (l = [] ∨ ∃ g, a = some ⟨g, 0, none⟩ ∧ B ≤ g ∧ (∀ j, j < l.length → w.frozen? ⟨g, j, none⟩ = false) ∧ IntsAt w g 0 l)
theorem OwnI.isI {B : Nat} {w : World} {x : Value} {l : List Int} (h : OwnI B w x l) : IsI w x l := by
 obtain ⟨a, cap, rfl, h1, h2, h⟩ := h
 exact ⟨a, cap, rfl, h1, h2, h.imp id (fun ⟨g, e, _, _, hr⟩ => ⟨g, 0, e, hr⟩)⟩
theorem OwnI.mono {B B' : Nat} {w : World} {x : Value} {l : List Int} (h : OwnI B w x l) (hb : B' ≤ B) : OwnI B' w x l := by
 obtain ⟨a, cap, rfl, h1, h2, h⟩ := h
 exact ⟨a, cap, rfl, h1, h2, h.imp id (fun ⟨g, e, hg, hr⟩ => ⟨g, e, Nat.le_trans hb hg, hr⟩)⟩
theorem OwnI.of_row {B : Nat} {w : World} {x : Value} {l : List Int} (h : w.ownsRow B 3 1 x l.length (intCells l)) : OwnI B w x l := by
 obtain ⟨hl, ⟨rfl, h0⟩ | ⟨g, cap, cur, rfl, hg, hc, h1, h2, h3, h4⟩⟩ := h
 ·exact ⟨none, 0, by rw [h0], by omega, by unfold maxLen; omega, .inl (List.eq_nil_of_length_eq_zero h0)⟩
 ·refine ⟨_, cap, rfl, h1, h2, .inr ⟨g, rfl, hg, fun j hj => ?_, (Array.getElem?_eq_some_iff.1 hc).1, fun i hi => ?_⟩⟩
  ·have hj2 : j < cur.size := by omega
   simp [World.frozen?, hc]
  ·have e1 : w.cell? ⟨g, i, none⟩ = (intCells l)[i]? := by
    rw [← h4, List.getElem?_take_of_lt (by omega)]
    simp [World.cell?, hc]
   rw [Nat.zero_add, e1]
   simp [intCells, intAt, hi]
end Go.Proofs.YthfhibnnkpbeiaaGreat

/- Ops and models as plain values. -/
namespace Go.Proofs.YthfhibnnkpbeiaaGreat
open Go.RowKit
structure O where
 c : Int
 a : Int
 b : Int
 k : Int
def oAt (l : List O) (i : Nat) : O := l.getD i ⟨0, 0, 0, 0⟩
def hAt (l : List (List O)) (i : Nat) : List O := l.getD i []
structure Md where
 n : Int
 s : Int
 i : List Int
 h : List (List O)
 e : List Ev
 z : Int
def okO (n len c a b k : Int) : Bool :=
 decide ((c = 0 ∧ 0 ≤ a ∧ a ≤ 1 ∧ 0 ≤ b ∧ b ≤ 999 ∧ k = 0) ∨ ((c = 1 ∨ c = 5) ∧ 0 ≤ a ∧ a ≤ 1 ∧ b = 0 ∧ k = 0) ∨ (c = 6 ∧ 0 ≤ a ∧ a ≤ 1 ∧ 1 ≤ b ∧ b ≤ 999 ∧ k = 0) ∨
  (c = 2 ∧ 0 ≤ a ∧ a < n ∧ 1 ≤ b ∧ b ≤ 50 ∧ 0 ≤ k ∧ k < len) ∨ (c = 3 ∧ 0 ≤ a ∧ a ≤ 1 ∧ 0 ≤ b ∧ b ≤ 999 ∧ 1 ≤ k ∧ k ≤ 8) ∨ (c = 4 ∧ 0 ≤ a ∧ a ≤ 3 ∧ 0 ≤ b ∧ b ≤ 1 ∧ k = 0))
def O.ok (n len : Int) (o : O) : Bool := okO n len o.c o.a o.b o.k
def O.cs (e : O) : List Value := [.int .i64 e.c, .int .i64 e.a, .int .i64 e.b, .int .i64 e.k]
def cellsO : List O → List Value
 | [] => []
 | e :: l => e.cs ++ cellsO l
theorem cellsO_length : ∀ l : List O, (cellsO l).length = l.length * 4
 | [] => rfl
 | e :: l => by simp [cellsO, cellsO_length l, O.cs]; omega
theorem oAt_cons_succ (e : O) (l : List O) (i : Nat) : oAt (e :: l) (i + 1) = oAt l i := by simp [oAt]
theorem cellsO_get : ∀ (l : List O) (i r : Nat), i < l.length → r < 4 → (cellsO l)[i * 4 + r]? = (oAt l i).cs[r]?
 | [], _, _, h, _ => by simp at h
 | e :: l, 0, r, _, hr => by
  have : r < e.cs.length := by simpa [O.cs] using hr
  simp only [cellsO, Nat.zero_mul, Nat.zero_add]
  rw [List.getElem?_append_left this]
  simp [oAt]
 | e :: l, i + 1, r, h, hr => by
  have h1 := cellsO_get l i r (by simpa using h) hr
  have : e.cs.length ≤ (i + 1) * 4 + r := by simp [O.cs]; omega
  simp only [cellsO]
  rw [List.getElem?_append_right this, oAt_cons_succ, ← h1]
  congr 1
  simp [O.cs]; omega
theorem cellsO_one (l : List O) : ∀ u ∈ cellsO l, u.oneCell' = true := by
 induction l with
 | nil => intro u h; cases h
 | cons e l ih =>
  intro u h
  rcases List.mem_append.1 h with h | h
  ·simp [O.cs] at h
   rcases h with rfl | rfl | rfl | rfl <;> rfl
  ·exact ih u h
end Go.Proofs.YthfhibnnkpbeiaaGreat

/- Contracts of toEvent, within, l1num, Compare: plain values in, plain values out. -/
namespace Go.Proofs.YthfhibnnkpbeiaaGreat
open Go.RowKit
theorem ret_bool {a b : Bool} (h : a = b) : Ending.returned (.bool a) = .returned (.bool b) := by rw [h]
theorem ret_int {k : IntKind} {a b : Int} (h : a = b) : Ending.returned (.int k a) = .returned (.int k b) := by rw [h]
theorem ret_dec {p : Prop} [Decidable p] {b : Bool} (h : p ↔ b = true) : Ending.returned (.bool (decide p)) = .returned (.bool b) := by
 rw [show decide p = b from by cases b <;> simp_all]
set_option maxHeartbeats 400000 in
theorem toEvent_any (t s q d k v g : Int) (w : World) :
  Calls Tryz.prog 70 #[.agg #[.int .i64 t, .int .i64 s, .int .i64 q, .int .i64 d, .int .i64 k, .int .i64 v, .int .i64 g]] w fun e w' =>
   e = .returned (.agg #[.int .i64 t, .int .i64 s, .int .i64 q, .int .i64 d, .int .i64 k, .int .i64 v, .int .i64 g]) ∧ Below w.heap.size w w' := by
 go_enter Tryz.func70, Tryz.ntmps70
 go_wp2
 exact bodyPost_ret (v := .agg #[.int .i64 t, .int .i64 s, .int .i64 q, .int .i64 d, .int .i64 k, .int .i64 v, .int .i64 g]) (by simp [results, Tryz.results70, go_sem]) rfl
  ⟨rfl, (((Below.refl _ _).alloc (Nat.le_refl _) _).alloc (by simp) _).alloc (by simp; omega) _⟩
set_option maxHeartbeats 400000 in
theorem within_any (x lo hi : Int) (w : World) :
  Calls Tryz.prog 71 #[.int .i64 x, .int .i64 lo, .int .i64 hi] w fun e w' =>
   e = .returned (.bool (decide (lo ≤ x) && decide (x ≤ hi))) ∧ w' = w := by
 go_enter Tryz.func71, Tryz.ntmps71
 go_wp2
 ·go_ret
  exact ⟨ret_dec (by simp_all), rfl⟩
 ·go_ret
  exact ⟨ret_bool (by simp; omega), rfl⟩
set_option maxHeartbeats 400000 in
theorem num_any (a b : Int) (w : World) :
  Calls Tryz.prog 126 #[.int .i64 a, .int .i64 b] w fun e w' => e = .returned (.int .i64 (num a b)) ∧ w' = w := by
 go_enter Tryz.func126, Tryz.ntmps126
 go_wp2
 all_goals (go_ret; exact ⟨ret_int (by unfold num; split <;> (try split) <;> omega), rfl⟩)
set_option maxHeartbeats 400000 in
theorem compare_any (a b : Int) (w : World) :
  Calls Tryz.prog 107 #[.int .i64 a, .int .i64 b] w fun e w' => e = .returned (.int .i64 (num a b)) ∧ w' = w := by
 go_enter Tryz.func107, Tryz.ntmps107
 go_wp2
 all_goals (go_ret; exact ⟨ret_int (by unfold num; split <;> (try split) <;> omega), rfl⟩)
end Go.Proofs.YthfhibnnkpbeiaaGreat

/- Small facts on worlds, and the order of two events. -/
namespace Go.Proofs.YthfhibnnkpbeiaaGreat
open Go.RowKit
theorem bcell {W w1 : World} (hb : Below W.heap.size W w1) : (∀ b o, b < W.heap.size → w1.cell? ⟨b, o, none⟩ = W.cell? ⟨b, o, none⟩) ∧ (∀ b o, b < W.heap.size → w1.frozen? ⟨b, o, none⟩ = W.frozen? ⟨b, o, none⟩) :=
 ⟨fun b o h => hb.cell (p := ⟨b, o, none⟩) h, fun b o h => hb.frozen (p := ⟨b, o, none⟩) h⟩
structure EvAt (w : World) (b o : Nat) (t s q d k v g : Int) : Prop where
 f0 : w.cell? ⟨b, o, none⟩ = some (.int .i64 t)
 f1 : w.cell? ⟨b, o + 1, none⟩ = some (.int .i64 s)
 f2 : w.cell? ⟨b, o + 2, none⟩ = some (.int .i64 q)
 f3 : w.cell? ⟨b, o + 3, none⟩ = some (.int .i64 d)
 f4 : w.cell? ⟨b, o + 4, none⟩ = some (.int .i64 k)
 f5 : w.cell? ⟨b, o + 5, none⟩ = some (.int .i64 v)
 f6 : w.cell? ⟨b, o + 6, none⟩ = some (.int .i64 g)
theorem EvAt.below {w w' : World} {B b o : Nat} {t s q d k v g : Int} (h : EvAt w b o t s q d k v g) (hb : Below B w w') (hlt : b < B) : EvAt w' b o t s q d k v g :=
 ⟨(hb.cell hlt).trans h.f0, (hb.cell hlt).trans h.f1, (hb.cell hlt).trans h.f2, (hb.cell hlt).trans h.f3, (hb.cell hlt).trans h.f4, (hb.cell hlt).trans h.f5, (hb.cell hlt).trans h.f6⟩
end Go.Proofs.YthfhibnnkpbeiaaGreat

/- A list of events in memory, as the walks see it. -/
namespace Go.Proofs.YthfhibnnkpbeiaaGreat
open Go.RowKit
theorem hidEvs {p : Prop} (h : p) : Hid p := h
abbrev Ev.val (e : Ev) : Value := .agg #[.int .i64 e.t, .int .i64 e.s, .int .i64 e.q, .int .i64 e.d, .int .i64 e.k, .int .i64 e.v, .int .i64 e.g]
abbrev Ev.In (w : World) (b o : Nat) (e : Ev) : Prop := EvAt w b o e.t e.s e.q e.d e.k e.v e.g
def EvsAt (w : World) (b off : Nat) (l : List Ev) : Prop := b < w.heap.size ∧ ∀ i, i < l.length → Ev.In w b (off + i * 7) (evAt l i)
def IsEvs (w : World) (x : Value) (l : List Ev) : Prop := ∃ a cap, x = .slice a l.length cap ∧ l.length ≤ cap ∧ cap ≤ maxLen ∧ (l = [] ∨ ∃ b off, a = some ⟨b, off, none⟩ ∧ EvsAt w b off l)
theorem EvsAt.below {w w' : World} {B b off : Nat} {l : List Ev} (h : EvsAt w b off l) (hb : Below B w w') (hB : b < B) : EvsAt w' b off l :=
 ⟨Nat.lt_of_lt_of_le h.1 hb.size, fun i hi => (h.2 i hi).below hb hB⟩
theorem IsEvs.below {w w' : World} {x : Value} {l : List Ev} (h : IsEvs w x l) (hb : Below w.heap.size w w') : IsEvs w' x l := by
 obtain ⟨a, cap, rfl, h1, h2, h⟩ := h
 refine ⟨a, cap, rfl, h1, h2, ?_⟩
 rcases h with h | ⟨b, off, rfl, h⟩
 ·exact .inl h
 ·exact .inr ⟨b, off, rfl, h.below hb h.1⟩
def RowTo (w : World) (g n : Nat) (l : List Ev) (k : Nat) : Prop := g < w.heap.size ∧ (∀ j, j < n * 7 → (w.cell? ⟨g, j, none⟩).isSome = true ∧ w.frozen? ⟨g, j, none⟩ = false) ∧ ∀ i, i < k → Ev.In w g (i * 7) (evAt l i)
theorem RowTo.made {w w1 : World} {z : List Value} {n : Nat} {l : List Ev} (h : w1.ownsRow w.heap.size 99 7 (.slice (some ⟨w.heap.size, 0, none⟩) n n) n z) : RowTo w1 w.heap.size n l 0 := by
 obtain ⟨hl, h | ⟨g, cap, cur, e, hg, hc, h1, h2, h3, h4⟩⟩ := h
 ·simp at h
 ·simp at e
  obtain ⟨rfl, rfl⟩ := e
  have hlt : w.heap.size < w1.heap.size := (Array.getElem?_eq_some_iff.1 hc).1
  refine ⟨hlt, fun j hj => ?_, fun i hi => by omega⟩
  simp [World.cell?, World.frozen?, hc, h3, hj]
theorem RowTo.below {w w' : World} {B g n k : Nat} {l : List Ev} (h : RowTo w g n l k) (hb : Below B w w') (hB : g < B) : RowTo w' g n l k :=
 ⟨Nat.lt_of_lt_of_le h.1 hb.size, fun j hj => by rw [hb.cell (p := ⟨g, j, none⟩) hB, hb.frozen (p := ⟨g, j, none⟩) hB]; exact h.2.1 j hj, fun i hi => (h.2.2 i hi).below hb hB⟩
abbrev put7 (w : World) (g o : Nat) (e : Ev) : World :=
 ((((((w.setCell ⟨g, o, none⟩ (.int .i64 e.t)).setCell ⟨g, o + 1, none⟩ (.int .i64 e.s)).setCell ⟨g, o + 2, none⟩ (.int .i64 e.q)).setCell ⟨g, o + 3, none⟩ (.int .i64 e.d)).setCell ⟨g, o + 4, none⟩ (.int .i64 e.k)).setCell ⟨g, o + 5, none⟩ (.int .i64 e.v)).setCell ⟨g, o + 6, none⟩ (.int .i64 e.g)
theorem put7_eq (w : World) (g o : Nat) (e : Ev) : put7 w g o e = w.setCells g o [.int .i64 e.t, .int .i64 e.s, .int .i64 e.q, .int .i64 e.d, .int .i64 e.k, .int .i64 e.v, .int .i64 e.g] := rfl
theorem put7_in {w : World} {g o : Nat} (e : Ev) (h : ∀ j, j < 7 → (w.cell? ⟨g, o + j, none⟩).isSome = true) : Ev.In (put7 w g o e) g o e := by
 rw [put7_eq]
 have hin := World.cell?_setCells_in g [.int .i64 e.t, .int .i64 e.s, .int .i64 e.q, .int .i64 e.d, .int .i64 e.k, .int .i64 e.v, .int .i64 e.g] o w (by simpa using h)
 exact ⟨hin 0 (by simp), hin 1 (by simp), hin 2 (by simp), hin 3 (by simp), hin 4 (by simp), hin 5 (by simp), hin 6 (by simp)⟩
theorem put7_out {w : World} {g o : Nat} (e : Ev) {b p : Nat} (h : b = g → p < o ∨ o + 7 ≤ p) : (put7 w g o e).cell? ⟨b, p, none⟩ = w.cell? ⟨b, p, none⟩ := by
 rw [put7_eq]
 exact World.cell?_setCells_out g _ o w ⟨b, p, none⟩ (fun hb _ => by simpa using h hb)
theorem put7_evIn {w : World} {g o b p : Nat} (e e' : Ev) (h : Ev.In w b p e') (hd : b = g → p + 7 ≤ o ∨ o + 7 ≤ p) : Ev.In (put7 w g o e) b p e' := by
 have h0 := fun j (_ : j < 7) => put7_out (w := w) (g := g) (o := o) e (b := b) (p := p + j) (fun hb => by have := hd hb; omega)
 exact ⟨(h0 0 (by omega)).trans h.f0, (h0 1 (by omega)).trans h.f1, (h0 2 (by omega)).trans h.f2, (h0 3 (by omega)).trans h.f3, (h0 4 (by omega)).trans h.f4, (h0 5 (by omega)).trans h.f5, (h0 6 (by omega)).trans h.f6⟩
theorem put7_some {w : World} {g o : Nat} (e : Ev) (h : ∀ j, j < 7 → (w.cell? ⟨g, o + j, none⟩).isSome = true) {p : Nat} (hp : (w.cell? ⟨g, p, none⟩).isSome = true) : ((put7 w g o e).cell? ⟨g, p, none⟩).isSome = true := by
 by_cases hr : p < o ∨ o + 7 ≤ p
 ·rw [put7_out e (fun _ => hr)]; exact hp
 ·obtain ⟨j, rfl⟩ : ∃ j, p = o + j := ⟨p - o, by omega⟩
  rw [put7_eq, World.cell?_setCells_in g _ o w (by simpa using h) j (by simp; omega)]
  rfl
theorem put7_frozen (w : World) (g o : Nat) (e : Ev) (a : Addr) : (put7 w g o e).frozen? a = w.frozen? a := by rw [put7_eq]; exact World.frozen?_setCells _ _ _ _ _
theorem put7_size (w : World) (g o : Nat) (e : Ev) : (put7 w g o e).heap.size = w.heap.size := by simp
theorem put7_below {B : Nat} {a w : World} (h : Below B a w) {g : Nat} (hg : B ≤ g) (o : Nat) (e : Ev) : Below B a (put7 w g o e) :=
 ((((((h.setCell (p := ⟨g, o, none⟩) hg _).setCell (p := ⟨g, o + 1, none⟩) hg _).setCell (p := ⟨g, o + 2, none⟩) hg _).setCell (p := ⟨g, o + 3, none⟩) hg _).setCell (p := ⟨g, o + 4, none⟩) hg _).setCell (p := ⟨g, o + 5, none⟩) hg _).setCell (p := ⟨g, o + 6, none⟩) hg _
theorem RowTo.put {w : World} {g n k : Nat} {l : List Ev} (h : RowTo w g n l k) (hk : k < n) : RowTo (put7 w g (k * 7) (evAt l k)) g n l (k + 1) := by
 obtain ⟨h1, h2, h3⟩ := h
 have hs : ∀ j, j < 7 → (w.cell? ⟨g, k * 7 + j, none⟩).isSome = true := fun j hj => (h2 _ (by omega)).1
 refine ⟨by rw [put7_size]; exact h1, fun j hj => ⟨put7_some _ hs (h2 j hj).1, by rw [put7_frozen]; exact (h2 j hj).2⟩, fun i hi => ?_⟩
 by_cases e : i = k
 ·subst e; exact put7_in _ hs
 ·exact put7_evIn _ _ (h3 i (by omega)) (fun _ => by omega)
theorem RowTo.cells {w : World} {g n k : Nat} {l : List Ev} (h : RowTo w g n l k) {i : Nat} (hi : i < n) : ∃ c0 c1 c2 c3 c4 c5 c6, (w.cell? ⟨g, i * 7, none⟩ = some c0 ∧ w.cell? ⟨g, i * 7 + 1, none⟩ = some c1 ∧ w.cell? ⟨g, i * 7 + 2, none⟩ = some c2 ∧ w.cell? ⟨g, i * 7 + 3, none⟩ = some c3 ∧ w.cell? ⟨g, i * 7 + 4, none⟩ = some c4 ∧ w.cell? ⟨g, i * 7 + 5, none⟩ = some c5 ∧ w.cell? ⟨g, i * 7 + 6, none⟩ = some c6) ∧
  (w.frozen? ⟨g, i * 7, none⟩ = false ∧ w.frozen? ⟨g, i * 7 + 1, none⟩ = false ∧ w.frozen? ⟨g, i * 7 + 2, none⟩ = false ∧ w.frozen? ⟨g, i * 7 + 3, none⟩ = false ∧ w.frozen? ⟨g, i * 7 + 4, none⟩ = false ∧ w.frozen? ⟨g, i * 7 + 5, none⟩ = false ∧ w.frozen? ⟨g, i * 7 + 6, none⟩ = false) := by
 have hh : ∀ j, j < 7 → (∃ c, w.cell? ⟨g, i * 7 + j, none⟩ = some c) ∧ w.frozen? ⟨g, i * 7 + j, none⟩ = false := fun j hj => ⟨Option.isSome_iff_exists.1 (h.2.1 _ (by omega)).1, (h.2.1 _ (by omega)).2⟩
 obtain ⟨⟨c0, g0⟩, z0⟩ := hh 0 (by omega)
 obtain ⟨⟨c1, g1⟩, z1⟩ := hh 1 (by omega)
 obtain ⟨⟨c2, g2⟩, z2⟩ := hh 2 (by omega)
 obtain ⟨⟨c3, g3⟩, z3⟩ := hh 3 (by omega)
 obtain ⟨⟨c4, g4⟩, z4⟩ := hh 4 (by omega)
 obtain ⟨⟨c5, g5⟩, z5⟩ := hh 5 (by omega)
 obtain ⟨⟨c6, g6⟩, z6⟩ := hh 6 (by omega)
 exact ⟨c0, c1, c2, c3, c4, c5, c6, ⟨g0, g1, g2, g3, g4, g5, g6⟩, ⟨z0, z1, z2, z3, z4, z5, z6⟩⟩
theorem info25 : (Tryz.prog.info? 99).map (fun i => (i.zero, i.size, i.bytes)) = some (some (.agg #[.int .i64 0, .int .i64 0, .int .i64 0, .int .i64 0, .int .i64 0, .int .i64 0, .int .i64 0]), 7, 56) := by kernel_rfl
set_option maxHeartbeats 1000000 in
theorem toEventS_any (x : Value) (l : List Ev) (w : World) (hl : l.length ≤ 1048576) (h : IsEvs w x l) :
  Calls Tryz.prog 30 #[x] w fun e w' => e = .returned (.slice (some ⟨w.heap.size, 0, none⟩) l.length l.length) ∧ Below w.heap.size w w' ∧ RowTo w' w.heap.size l.length l l.length := by
 obtain ⟨a, cap, rfl, h1, h2, h⟩ := h
 rcases h with rfl | ⟨b, off, rfl, hb, h⟩
 ·obtain ⟨i0, hi, hz0, hz1, hz2⟩ := info_parts info25
  go_enter Tryz.func30, Tryz.ntmps30
  go_wp2_with (at_make; refine wpList_make_full _ rfl _ _ 29 rfl w.heap.size 99 i0 _ 7 Tryz.underlying29 hi hz0 hz1 .i64 .i64 0 0 0 rfl rfl rfl rfl (by rw [hz2]; omega) (by unfold maxLen; omega) (Nat.le_refl _) ?_; intro w1 hown hgrow)
  have hB1 : Below w.heap.size w w1 := (Below.refl _ _).grown hgrow (Nat.le_refl _) (fun k e => by cases e)
  have hR1 : RowTo w1 w.heap.size 0 [] 0 := RowTo.made hown
  clear hown hgrow hi hz0 hz1 hz2
  go_loop [4] (fun i => i = .int .i64 0) (fun _ => 0)
  case atStart => rfl
  case round =>
   subst hrel
   go_wp2
   go_ret
   exact ⟨rfl, hB1, hR1⟩
 ·have hp : (0 : Int) ≤ (l.length : Int) := by omega
  obtain ⟨i0, hi, hz0, hz1, hz2⟩ := info_parts info25
  go_enter Tryz.func30, Tryz.ntmps30
  go_wp2_with (at_make; refine wpList_make_full _ rfl _ _ 29 rfl w.heap.size 99 i0 _ 7 Tryz.underlying29 hi hz0 hz1 .i64 .i64 l.length l.length l.length rfl rfl rfl rfl (by rw [hz2]; omega) (by unfold maxLen; omega) (Nat.le_refl _) ?_; intro w1 hown hgrow)
  have hB1 : Below w.heap.size w w1 := (Below.refl _ _).grown hgrow (Nat.le_refl _) (fun k e => by cases e)
  have hR1 : RowTo w1 w.heap.size l.length l 0 := RowTo.made hown
  clear hown hgrow hi hz0 hz1 hz2
  go_loopw [4] (fun i wr => ∃ k : Nat, k ≤ l.length ∧ i = .int .i64 k ∧ Below w.heap.size w wr ∧ RowTo wr w.heap.size l.length l k) (fun i _ => l.length - (intOf i).toNat)
  case atStart => exact ⟨0, Nat.zero_le _, rfl, hB1, hR1⟩
  case round =>
   obtain ⟨k, hk, rfl, hB, hR⟩ := hrel
   have HB := hidEvs hB
   have HR := hidEvs hR
   by_cases hlt : k < l.length
   ·obtain ⟨f0, f1, f2, f3, f4, f5, f6⟩ := (h k hlt).below hB hb
    clear hB hR hB1 hR1 h
    have hg : w.heap.size < wr.heap.size := HR.out.1
    go_wp2_with (go_at_call 70; refine (toEvent_any _ _ _ _ _ _ _ _).mono ?_; rintro e w2 ⟨rfl, hb2⟩; have HR2 : Hid (RowTo w2 w.heap.size l.length l k) := HR.out.below hb2 hg; obtain ⟨c0, c1, c2, c3, c4, c5, c6, ⟨g0, g1, g2, g3, g4, g5, g6⟩, ⟨z0, z1, z2, z3, z4, z5, z6⟩⟩ := HR2.out.cells hlt)
    go_roundw
    case rel => exact ⟨k + 1, by omega, by go_num, put7_below (HB.out.trans (hb2.mono (by omega))) (Nat.le_refl _) _ _, HR2.out.put hlt⟩
    case measure => simp [intOf]; omega
   ·clear hB hR hB1 hR1 h
    go_wp2
    go_ret
    obtain rfl : k = l.length := by omega
    exact ⟨rfl, HB.out, HR.out⟩
end Go.Proofs.YthfhibnnkpbeiaaGreat

