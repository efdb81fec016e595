/- Pure, NTurn, NInts, MPure, Base, Kit -/
import Derived.Test.YthfhibnnkpbeiaaGreatRows
import Derived.WalkKit
import Derived.Below
import Derived.OwnWalk
import Derived.Deep.RegionHeld3
import Derived.WalkSpells
import Derived.WalkLawsBesides
import Derived.Outline
/- Events and heaps of them as plain lists: lifting, sinking, taking out; what the library does and what the document says come to the same. -/
namespace Go.Proofs.YthfhibnnkpbeiaaGreat
def okB (t s q d k v g : Int) : Bool := decide (0 ≤ t ∧ t ≤ 1000 ∧ -1 ≤ s ∧ s ≤ 3 ∧ 0 ≤ q ∧ q ≤ 100000 ∧ 0 ≤ d ∧ d ≤ 3 ∧ 0 ≤ k ∧ k ≤ 3 ∧ 0 ≤ v ∧ v ≤ 999 ∧ 0 ≤ g ∧ g ≤ 100000)
def num (a b : Int) : Int := if a < b then -1 else if b < a then 1 else 0
def cmpI (t s q g t' s' q' g' : Int) : Int := if t ≠ t' then num t t' else if s ≠ s' then num s s' else if q ≠ q' then num q q' else num g g'
structure Ev where
 t : Int
 s : Int
 q : Int
 d : Int
 k : Int
 v : Int
 g : Int
def evAt (l : List Ev) (i : Nat) : Ev := l.getD i ⟨0, 0, 0, 0, 0, 0, 0⟩
def Ev.ok (e : Ev) : Bool := okB e.t e.s e.q e.d e.k e.v e.g
def Ev.cmp (a b : Ev) : Int := cmpI a.t a.s a.q a.g b.t b.s b.q b.g
theorem cmpI_lt (t s q g t' s' q' g' : Int) : cmpI t s q g t' s' q' g' < 0 ↔ t < t' ∨ (t = t' ∧ (s < s' ∨ (s = s' ∧ (q < q' ∨ (q = q' ∧ g < g'))))) := by
 unfold cmpI num
 split
 ·split
  ·omega
  ·split <;> omega
 ·split
  ·split
   ·omega
   ·split <;> omega
  ·split
   ·split
    ·omega
    ·split <;> omega
   ·split
    ·omega
    ·split <;> omega
theorem evAt_drop (l : List Ev) (k i : Nat) : evAt (l.drop k) i = evAt l (k + i) := by simp [evAt]
end Go.Proofs.YthfhibnnkpbeiaaGreat

/- What turns, and what stays as it was. -/
namespace Go.Proofs.YthfhibnnkpbeiaaGreat
open Go.RowKit
structure Turns (S : Nat → Prop) (w w' : World) : Prop where
 os : w'.os = w.os
 tape : w'.tape = w.tape
 output : w'.output = w.output
 size : w.heap.size ≤ w'.heap.size
 block : ∀ k, k < w.heap.size → ¬ S k → w'.heap[k]? = w.heap[k]?
theorem Turns.refl (S : Nat → Prop) (w : World) : Turns S w w := ⟨rfl, rfl, rfl, Nat.le_refl _, fun _ _ _ => rfl⟩
theorem Turns.trans {S : Nat → Prop} {a b c : World} (h : Turns S a b) (k : Turns S b c) : Turns S a c :=
 ⟨k.os.trans h.os, k.tape.trans h.tape, k.output.trans h.output, Nat.le_trans h.size k.size, fun i hi hS => (k.block i (Nat.lt_of_lt_of_le hi h.size) hS).trans (h.block i hi hS)⟩
theorem Turns.of_below {S : Nat → Prop} {w w' : World} (h : Below w.heap.size w w') : Turns S w w' := ⟨h.os, h.tape, h.output, h.size, fun k hk _ => h.block k hk⟩
theorem Turns.to_below {S : Nat → Prop} {w w' : World} {B : Nat} (h : Turns S w w') (hS : ∀ k, S k → B ≤ k) (hB : B ≤ w.heap.size) : Below B w w' :=
 ⟨h.os, h.tape, h.output, h.size, fun k hk => h.block k (by omega) (fun e => by have := hS k e; omega)⟩
theorem Turns.mono {S S' : Nat → Prop} {w w' : World} (h : Turns S w w') (hS : ∀ k, S k → S' k) : Turns S' w w' := ⟨h.os, h.tape, h.output, h.size, fun k hk hn => h.block k hk (fun e => hn (hS k e))⟩
theorem Turns.alloc {S : Nat → Prop} {a w : World} (h : Turns S a w) (o : Obj) : Turns S a (w.alloc o) := h.trans (Turns.of_below ((Below.refl _ w).alloc (Nat.le_refl _) o))
theorem Turns.setCell {S : Nat → Prop} {a w : World} (h : Turns S a w) {p : Addr} (hp : S p.block) (u : Value) : Turns S a (w.setCell p u) :=
 h.trans ⟨rfl, rfl, rfl, by simp [World.setCell], fun k _ hk => Below.heap_setCell _ _ _ _ (fun e => hk (e ▸ hp))⟩
theorem Turns.cell {S : Nat → Prop} {w w' : World} (h : Turns S w w') {b o : Nat} (hb : b < w.heap.size) (hS : ¬ S b) : w'.cell? ⟨b, o, none⟩ = w.cell? ⟨b, o, none⟩ := World.cell?_of_block (w := w) (h.block b hb hS)
theorem Turns.frozen {S : Nat → Prop} {w w' : World} (h : Turns S w w') {b o : Nat} (hb : b < w.heap.size) (hS : ¬ S b) : w'.frozen? ⟨b, o, none⟩ = w.frozen? ⟨b, o, none⟩ := World.frozen?_of_block (w := w) (h.block b hb hS)
end Go.Proofs.YthfhibnnkpbeiaaGreat

/- Rows of numbers: eqIntS where both sides are the same, markIntS, heldIntS. -/
namespace Go.Proofs.YthfhibnnkpbeiaaGreat
open Go.RowKit
def intAt (l : List Int) (i : Nat) : Int := l.getD i 0
def intCells (l : List Int) : List Value := l.map (Value.int .i64)
def IntsAt (w : World) (b off : Nat) (l : List Int) : Prop := b < w.heap.size ∧ ∀ i, i < l.length → w.cell? ⟨b, off + i, none⟩ = some (.int .i64 (intAt l i))
def IsI (w : World) (x : Value) (l : List Int) : Prop := ∃ a cap, x = .slice a l.length cap ∧ l.length ≤ cap ∧ cap ≤ maxLen ∧ (l = [] ∨ ∃ b off, a = some ⟨b, off, none⟩ ∧ IntsAt w b off l)
theorem IntsAt.below {w w' : World} {B b off : Nat} {l : List Int} (h : IntsAt w b off l) (hb : Below B w w') (hB : b < B) : IntsAt w' b off l :=
 ⟨Nat.lt_of_lt_of_le h.1 hb.size, fun i hi => (hb.cell hB).trans (h.2 i hi)⟩
theorem IsI.below {w w' : World} {x : Value} {l : List Int} (h : IsI w x l) (hb : Below w.heap.size w w') : IsI w' x l := by
 obtain ⟨a, cap, rfl, h1, h2, h⟩ := h
 exact ⟨a, cap, rfl, h1, h2, h.imp id (fun ⟨b, off, e, h⟩ => ⟨b, off, e, h.below hb h.1⟩)⟩
theorem grown_refl (w : World) (row : Option Nat) : w.grownBy w row := ⟨rfl, rfl, rfl, Nat.le_refl _, fun _ _ _ => rfl⟩
set_option maxHeartbeats 2000000 in
theorem eqI_same (x y : Value) (l : List Int) (w : World) (hl : l.length ≤ 4611686018427387904) (hx : IsI w x l) (hy : IsI w y l) :
  Calls Tryz.prog 12 #[x, y] w fun e w' => e = .returned (.bool true) ∧ Below w.heap.size w w' := by
 obtain ⟨a, cap, rfl, h1, h2, h⟩ := hx
 obtain ⟨a', cap', rfl, h1', h2', h'⟩ := hy
 clear h1 h2 h1' h2'
 by_cases hz : l = []
 ·subst hz
  clear h h'
  go_enter Tryz.func12, Tryz.ntmps12
  go_wp2
  go_loop [5] (fun i => i = .int .i64 0) (fun _ => 0)
  case atStart => rfl
  case round =>
   subst hrel
   go_wp2
   go_ret
   exact ⟨rfl, Below.refl _ _⟩
 ·obtain ⟨b, off, rfl, hb, hc⟩ := h.resolve_left hz
  obtain ⟨b', off', rfl, hb', hc'⟩ := h'.resolve_left hz
  clear h h' hz
  go_enter Tryz.func12, Tryz.ntmps12
  go_wp2
  go_loopw [5] (fun i wr => ∃ k : Nat, k ≤ l.length ∧ i = .int .i64 k ∧ Below w.heap.size w wr) (fun i _ => l.length - (intOf i).toNat)
  case atStart => exact ⟨0, Nat.zero_le _, rfl, Below.refl _ _⟩
  case round =>
   obtain ⟨k, hk, rfl, hB⟩ := hrel
   have HB : Hid (Below w.heap.size w wr) := hB
   by_cases hlt : k < l.length
   ·have f0 := (hB.cell (p := ⟨b, off + k, none⟩) hb).trans (hc k hlt)
    have e0 := (hB.cell (p := ⟨b', off' + k, none⟩) hb').trans (hc' k hlt)
    generalize intAt l k = z at f0 e0
    clear hB hc hc'
    go_wp2_with fail
    go_region_held3 (fun W => W.cell? ⟨b, off + k, none⟩ = some (.int .i64 z) ∧ W.cell? ⟨b', off' + k, none⟩ = some (.int .i64 z)) ((repeat' apply And.intro) <;> go_keep) (fail)
    go_wp2
    go_roundw
    case rel => exact ⟨k + 1, by omega, by go_num, HB.out.drew⟩
    case measure => simp [intOf]; omega
   ·clear hB hc hc'
    go_wp2
    go_ret
    exact ⟨rfl, HB.out⟩
end Go.Proofs.YthfhibnnkpbeiaaGreat

/- Ops and models as plain values. -/
namespace Go.Proofs.YthfhibnnkpbeiaaGreat
open Go.RowKit
structure O where
 c : Int
 a : Int
 b : Int
 k : Int
def oAt (l : List O) (i : Nat) : O := l.getD i ⟨0, 0, 0, 0⟩
def hAt (l : List (List O)) (i : Nat) : List O := l.getD i []
structure Md where
 n : Int
 s : Int
 i : List Int
 h : List (List O)
 e : List Ev
 z : Int
def okO (n len c a b k : Int) : Bool :=
 decide ((c = 0 ∧ 0 ≤ a ∧ a ≤ 1 ∧ 0 ≤ b ∧ b ≤ 999 ∧ k = 0) ∨ ((c = 1 ∨ c = 5) ∧ 0 ≤ a ∧ a ≤ 1 ∧ b = 0 ∧ k = 0) ∨ (c = 6 ∧ 0 ≤ a ∧ a ≤ 1 ∧ 1 ≤ b ∧ b ≤ 999 ∧ k = 0) ∨
  (c = 2 ∧ 0 ≤ a ∧ a < n ∧ 1 ≤ b ∧ b ≤ 50 ∧ 0 ≤ k ∧ k < len) ∨ (c = 3 ∧ 0 ≤ a ∧ a ≤ 1 ∧ 0 ≤ b ∧ b ≤ 999 ∧ 1 ≤ k ∧ k ≤ 8) ∨ (c = 4 ∧ 0 ≤ a ∧ a ≤ 3 ∧ 0 ≤ b ∧ b ≤ 1 ∧ k = 0))
def O.ok (n len : Int) (o : O) : Bool := okO n len o.c o.a o.b o.k
def O.cs (e : O) : List Value := [.int .i64 e.c, .int .i64 e.a, .int .i64 e.b, .int .i64 e.k]
def cellsO : List O → List Value
 | [] => []
 | e :: l => e.cs ++ cellsO l
theorem cellsO_length : ∀ l : List O, (cellsO l).length = l.length * 4
 | [] => rfl
 | e :: l => by simp [cellsO, cellsO_length l, O.cs]; omega
theorem oAt_cons_succ (e : O) (l : List O) (i : Nat) : oAt (e :: l) (i + 1) = oAt l i := by simp [oAt]
theorem cellsO_get : ∀ (l : List O) (i r : Nat), i < l.length → r < 4 → (cellsO l)[i * 4 + r]? = (oAt l i).cs[r]?
 | [], _, _, h, _ => by simp at h
 | e :: l, 0, r, _, hr => by
  have : r < e.cs.length := by simpa [O.cs] using hr
  simp only [cellsO, Nat.zero_mul, Nat.zero_add]
  rw [List.getElem?_append_left this]
  simp [oAt]
 | e :: l, i + 1, r, h, hr => by
  have h1 := cellsO_get l i r (by simpa using h) hr
  have : e.cs.length ≤ (i + 1) * 4 + r := by simp [O.cs]; omega
  simp only [cellsO]
  rw [List.getElem?_append_right this, oAt_cons_succ, ← h1]
  congr 1
  simp [O.cs]; omega
theorem cellsO_one (l : List O) : ∀ u ∈ cellsO l, u.oneCell' = true := by
 induction l with
 | nil => intro u h; cases h
 | cons e l ih =>
  intro u h
  rcases List.mem_append.1 h with h | h
  ·simp [O.cs] at h
   rcases h with rfl | rfl | rfl | rfl <;> rfl
  ·exact ih u h
end Go.Proofs.YthfhibnnkpbeiaaGreat

/- Contracts of toEvent, within, l1num, Compare: plain values in, plain values out. -/
namespace Go.Proofs.YthfhibnnkpbeiaaGreat
open Go.RowKit
theorem ret_bool {a b : Bool} (h : a = b) : Ending.returned (.bool a) = .returned (.bool b) := by rw [h]
theorem ret_int {k : IntKind} {a b : Int} (h : a = b) : Ending.returned (.int k a) = .returned (.int k b) := by rw [h]
theorem ret_dec {p : Prop} [Decidable p] {b : Bool} (h : p ↔ b = true) : Ending.returned (.bool (decide p)) = .returned (.bool b) := by
 rw [show decide p = b from by cases b <;> simp_all]
set_option maxHeartbeats 400000 in
theorem toEvent_any (t s q d k v g : Int) (w : World) :
  Calls Tryz.prog 70 #[.agg #[.int .i64 t, .int .i64 s, .int .i64 q, .int .i64 d, .int .i64 k, .int .i64 v, .int .i64 g]] w fun e w' =>
   e = .returned (.agg #[.int .i64 t, .int .i64 s, .int .i64 q, .int .i64 d, .int .i64 k, .int .i64 v, .int .i64 g]) ∧ Below w.heap.size w w' := by
 go_enter Tryz.func70, Tryz.ntmps70
 go_wp2
 exact bodyPost_ret (v := .agg #[.int .i64 t, .int .i64 s, .int .i64 q, .int .i64 d, .int .i64 k, .int .i64 v, .int .i64 g]) (by simp [results, Tryz.results70, go_sem]) rfl
  ⟨rfl, (((Below.refl _ _).alloc (Nat.le_refl _) _).alloc (by simp) _).alloc (by simp; omega) _⟩
set_option maxHeartbeats 400000 in
theorem within_any (x lo hi : Int) (w : World) :
  Calls Tryz.prog 71 #[.int .i64 x, .int .i64 lo, .int .i64 hi] w fun e w' =>
   e = .returned (.bool (decide (lo ≤ x) && decide (x ≤ hi))) ∧ w' = w := by
 go_enter Tryz.func71, Tryz.ntmps71
 go_wp2
 ·go_ret
  exact ⟨ret_dec (by simp_all), rfl⟩
 ·go_ret
  exact ⟨ret_bool (by simp; omega), rfl⟩
set_option maxHeartbeats 400000 in
theorem num_any (a b : Int) (w : World) :
  Calls Tryz.prog 126 #[.int .i64 a, .int .i64 b] w fun e w' => e = .returned (.int .i64 (num a b)) ∧ w' = w := by
 go_enter Tryz.func126, Tryz.ntmps126
 go_wp2
 all_goals (go_ret; exact ⟨ret_int (by unfold num; split <;> (try split) <;> omega), rfl⟩)
set_option maxHeartbeats 400000 in
theorem compare_any (a b : Int) (w : World) :
  Calls Tryz.prog 107 #[.int .i64 a, .int .i64 b] w fun e w' => e = .returned (.int .i64 (num a b)) ∧ w' = w := by
 go_enter Tryz.func107, Tryz.ntmps107
 go_wp2
 all_goals (go_ret; exact ⟨ret_int (by unfold num; split <;> (try split) <;> omega), rfl⟩)
end Go.Proofs.YthfhibnnkpbeiaaGreat

/- Small facts on worlds, and the order of two events. -/
namespace Go.Proofs.YthfhibnnkpbeiaaGreat
open Go.RowKit
theorem bcell {W w1 : World} (hb : Below W.heap.size W w1) : (∀ b o, b < W.heap.size → w1.cell? ⟨b, o, none⟩ = W.cell? ⟨b, o, none⟩) ∧ (∀ b o, b < W.heap.size → w1.frozen? ⟨b, o, none⟩ = W.frozen? ⟨b, o, none⟩) :=
 ⟨fun b o h => hb.cell (p := ⟨b, o, none⟩) h, fun b o h => hb.frozen (p := ⟨b, o, none⟩) h⟩
structure EvAt (w : World) (b o : Nat) (t s q d k v g : Int) : Prop where
 f0 : w.cell? ⟨b, o, none⟩ = some (.int .i64 t)
 f1 : w.cell? ⟨b, o + 1, none⟩ = some (.int .i64 s)
 f2 : w.cell? ⟨b, o + 2, none⟩ = some (.int .i64 q)
 f3 : w.cell? ⟨b, o + 3, none⟩ = some (.int .i64 d)
 f4 : w.cell? ⟨b, o + 4, none⟩ = some (.int .i64 k)
 f5 : w.cell? ⟨b, o + 5, none⟩ = some (.int .i64 v)
 f6 : w.cell? ⟨b, o + 6, none⟩ = some (.int .i64 g)
theorem EvAt.below {w w' : World} {B b o : Nat} {t s q d k v g : Int} (h : EvAt w b o t s q d k v g) (hb : Below B w w') (hlt : b < B) : EvAt w' b o t s q d k v g :=
 ⟨(hb.cell hlt).trans h.f0, (hb.cell hlt).trans h.f1, (hb.cell hlt).trans h.f2, (hb.cell hlt).trans h.f3, (hb.cell hlt).trans h.f4, (hb.cell hlt).trans h.f5, (hb.cell hlt).trans h.f6⟩
end Go.Proofs.YthfhibnnkpbeiaaGreat

