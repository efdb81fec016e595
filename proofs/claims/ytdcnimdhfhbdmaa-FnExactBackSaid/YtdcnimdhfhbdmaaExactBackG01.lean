/- NInts, MPure, MRow, VTo, MTo -/
import Derived.Test.YtdcnimdhfhbdmaaExactBackG00
import Derived.OwnWalk
import Derived.Deep.RegionHeld3
/- Rows of numbers: eqIntS where both sides are the same, markIntS, heldIntS. -/
namespace Go.Proofs.Ytdcnimdhfhbdmaa
open Go.RowKit
def intAt (l : List Int) (i : Nat) : Int := l.getD i 0
def intCells (l : List Int) : List Value := l.map (Value.int .i64)
/- The bytes of l lie in block b from off on. -/
def IntsAt (w : World) (b off : Nat) (l : List Int) : Prop := b < w.heap.size ∧ ∀ i, i < l.length → w.cell? ⟨b, off + i, none⟩ = some (.int .i64 (intAt l i))
def IsI (w : World) (x : Value) (l : List Int) : Prop := ∃ a cap, x = .slice a l.length cap ∧ l.length ≤ cap ∧ cap ≤ maxLen ∧ (l = [] ∨ ∃ b off, a = some ⟨b, off, none⟩ ∧ IntsAt w b off l)
theorem IntsAt.below {w w' : World} {B b off : Nat} {l : List Int} (h : IntsAt w b off l) (hb : Below B w w') (hB : b < B) : IntsAt w' b off l :=
 ⟨Nat.lt_of_lt_of_le h.1 hb.size, fun i hi => (hb.cell hB).trans (h.2 i hi)⟩
theorem IsI.below {w w' : World} {x : Value} {l : List Int} (h : IsI w x l) (hb : Below w.heap.size w w') : IsI w' x l := by
 obtain ⟨a, cap, rfl, h1, h2, h⟩ := h
 exact ⟨a, cap, rfl, h1, h2, h.imp id (fun ⟨b, off, e, h⟩ => ⟨b, off, e, h.below hb h.1⟩)⟩
/- The block g holds n cells that may be written; the first k of them hold the marks. -/
theorem grown_refl (w : World) (row : Option Nat) : w.grownBy w row := ⟨rfl, rfl, rfl, Nat.le_refl _, fun _ _ _ => rfl⟩
set_option maxHeartbeats 2000000 in
theorem eqI_same (x y : Value) (l : List Int) (w : World) (hl : l.length ≤ 4611686018427387904) (hx : IsI w x l) (hy : IsI w y l) :
  Calls Try.prog 41 #[x, y] w fun e w' => e = .returned (.bool true) ∧ Below w.heap.size w w' := by
 obtain ⟨a, cap, rfl, h1, h2, h⟩ := hx
 obtain ⟨a', cap', rfl, h1', h2', h'⟩ := hy
 clear h1 h2 h1' h2'
 by_cases hz : l = []
 ·subst hz
  clear h h'
  go_enter Try.func41, Try.ntmps41
  go_wp2
  go_loop [5] (fun i => i = .int .i64 0) (fun _ => 0)
  case atStart => rfl
  case round =>
   subst hrel
   go_wp2
   go_ret
   exact ⟨rfl, Below.refl _ _⟩
 ·obtain ⟨b, off, rfl, hb, hc⟩ := h.resolve_left hz
  obtain ⟨b', off', rfl, hb', hc'⟩ := h'.resolve_left hz
  clear h h' hz
  go_enter Try.func41, Try.ntmps41
  go_wp2
  go_loopw [5] (fun i wr => ∃ k : Nat, k ≤ l.length ∧ i = .int .i64 k ∧ Below w.heap.size w wr) (fun i _ => l.length - (intOf i).toNat)
  case atStart => exact ⟨0, Nat.zero_le _, rfl, Below.refl _ _⟩
  case round =>
   obtain ⟨k, hk, rfl, hB⟩ := hrel
   have HB : Hid (Below w.heap.size w wr) := hB
   by_cases hlt : k < l.length
   ·have f0 := (hB.cell (p := ⟨b, off + k, none⟩) hb).trans (hc k hlt)
    have e0 := (hB.cell (p := ⟨b', off' + k, none⟩) hb').trans (hc' k hlt)
    generalize intAt l k = z at f0 e0
    clear hB hc hc'
    go_wp2_with fail
    go_region_held3 (fun W => W.cell? ⟨b, off + k, none⟩ = some (.int .i64 z) ∧ W.cell? ⟨b', off' + k, none⟩ = some (.int .i64 z)) ((repeat' apply And.intro) <;> go_keep) (fail)
    go_wp2
    go_roundw
    case rel => exact ⟨k + 1, by omega, by go_num, HB.out.drew⟩
    case measure => simp [intOf]; omega
   ·clear hB hc hc'
    go_wp2
    go_ret
    exact ⟨rfl, HB.out⟩

/- A slice over the bytes l, in a block of its own from B on, all of whose cells may be written. -/
/- At most one row, at or above B, has turned. -/
end Go.Proofs.Ytdcnimdhfhbdmaa

/- Ops and models as plain values. -/
namespace Go.Proofs.Ytdcnimdhfhbdmaa
open Go.RowKit
/- An op that may be, of a model with n parts and len handlers. -/
end Go.Proofs.Ytdcnimdhfhbdmaa

/- Rows of cells in blocks of F: what they hold, and what stays of them. -/
namespace Go.Proofs.Ytdcnimdhfhbdmaa
open Go.RowKit
/- The value x is a slice of n elements of c cells each, which hold cs, may be written, and lie at the head of a block of F. -/
def RowF (F : Nat → Prop) (w : World) (x : Value) (n c : Nat) (cs : List Value) : Prop :=
 cs.length = n * c ∧ ∃ a cap, x = .slice a n cap ∧ n ≤ cap ∧ cap ≤ maxLen ∧
  (n = 0 ∨ ∃ g, a = some ⟨g, 0, none⟩ ∧ F g ∧ g < w.heap.size ∧ ∀ j, j < n * c → w.cell? ⟨g, j, none⟩ = cs[j]? ∧ w.frozen? ⟨g, j, none⟩ = false)
theorem RowF.turns {F S : Nat → Prop} {w w' : World} {x : Value} {n c : Nat} {cs : List Value} (h : RowF F w x n c cs) (ht : Turns S w w') (hS : ∀ k, F k → ¬ S k) : RowF F w' x n c cs := by
 obtain ⟨hl, a, cap, rfl, h1, h2, h⟩ := h
 refine ⟨hl, a, cap, rfl, h1, h2, h.imp id ?_⟩
 rintro ⟨g, rfl, hF, hg, hc⟩
 exact ⟨g, rfl, hF, Nat.lt_of_lt_of_le hg ht.size, fun j hj => by rw [ht.cell hg (hS g hF), ht.frozen hg (hS g hF)]; exact hc j hj⟩
theorem RowF.mono {F F' : Nat → Prop} {w : World} {x : Value} {n c : Nat} {cs : List Value} (h : RowF F w x n c cs) (hF : ∀ k, F k → F' k) : RowF F' w x n c cs := by
 obtain ⟨hl, a, cap, rfl, h1, h2, h⟩ := h
 exact ⟨hl, a, cap, rfl, h1, h2, h.imp id (fun ⟨g, e, h3, h4⟩ => ⟨g, e, hF g h3, h4⟩)⟩
theorem RowF.of_owns {B : Nat} {T : TypeId} {w : World} {x : Value} {n c : Nat} {cs : List Value} (hcs : cs.length = n * c) (h : w.ownsRow B T c x n cs) : RowF (fun k => B ≤ k ∧ k < w.heap.size) w x n c cs := by
 obtain ⟨hl, ⟨rfl, h0⟩ | ⟨g, cap, cur, rfl, hg, hc, h1, h2, h3, h4⟩⟩ := h
 ·exact ⟨hcs, none, 0, by rw [h0], by omega, by unfold maxLen; omega, .inl h0⟩
 ·have hlt : g < w.heap.size := (Array.getElem?_eq_some_iff.1 hc).1
  refine ⟨hcs, _, cap, rfl, h1, h2, .inr ⟨g, rfl, ⟨hg, hlt⟩, hlt, fun j hj => ?_⟩⟩
  have hj2 : j < cur.size := by rw [h3]; exact Nat.lt_of_lt_of_le hj (Nat.mul_le_mul_right c h1)
  refine ⟨?_, by simp [World.frozen?, hc]⟩
  rw [← h4, List.getElem?_take_of_lt (by omega)]
  simp [World.cell?, hc]
theorem intCells_length (l : List Int) : (intCells l).length = l.length := by simp [intCells]
/- An op that lies at cell o of block b. -/
/- A slice of slices of ops. -/
/- A slice x of n slices: the i-th is U i, with L i elements of four cells each, which hold C i; no two of them, nor one and the slice itself, share a block. -/
/- A model. -/
/- A model whose lists lie in blocks of F, no two of them in one. -/
end Go.Proofs.Ytdcnimdhfhbdmaa

/- toIntS: a row of one's own. -/
namespace Go.Proofs.Ytdcnimdhfhbdmaa
open Go.RowKit
/- The block g holds the numbers of l, from its first cell on, and they may be written. -/
def RowI (w : World) (g : Nat) (l : List Int) : Prop := g < w.heap.size ∧ ∀ j, j < l.length → w.cell? ⟨g, j, none⟩ = some (.int .i64 (intAt l j)) ∧ w.frozen? ⟨g, j, none⟩ = false
abbrev sl (g n : Nat) : Value := .slice (some ⟨g, 0, none⟩) n n
/- As far as k it holds them; all n cells may be written. -/
def FillI (w : World) (g n : Nat) (l : List Int) (k : Nat) : Prop := g < w.heap.size ∧ (∀ j, j < n → (w.cell? ⟨g, j, none⟩).isSome = true ∧ w.frozen? ⟨g, j, none⟩ = false) ∧ ∀ i, i < k → w.cell? ⟨g, i, none⟩ = some (.int .i64 (intAt l i))
theorem FillI.row {w : World} {g : Nat} {l : List Int} (h : FillI w g l.length l l.length) : RowI w g l := ⟨h.1, fun j hj => ⟨h.2.2 j hj, (h.2.1 j hj).2⟩⟩
theorem FillI.put {w : World} {g n k : Nat} {l : List Int} (h : FillI w g n l k) (hk : k < n) : FillI (w.setCell ⟨g, k, none⟩ (.int .i64 (intAt l k))) g n l (k + 1) := by
 have e1 : w.setCell ⟨g, k, none⟩ (.int .i64 (intAt l k)) = w.setCells g k [.int .i64 (intAt l k)] := rfl
 have hsame : ∀ j, j ≠ k → (w.setCell ⟨g, k, none⟩ (.int .i64 (intAt l k))).cell? ⟨g, j, none⟩ = w.cell? ⟨g, j, none⟩ := fun j hj => by
  rw [e1]
  exact World.cell?_setCells_out g _ k w ⟨g, j, none⟩ (fun _ _ => by simp; omega)
 have hat : (w.setCell ⟨g, k, none⟩ (.int .i64 (intAt l k))).cell? ⟨g, k, none⟩ = some (.int .i64 (intAt l k)) := by
  rw [e1]
  have h0 := World.cell?_setCells_in g [.int .i64 (intAt l k)] k w (fun j hj => by
   obtain rfl : j = 0 := by simpa using hj
   exact (h.2.1 k hk).1) 0 (by simp)
  simpa using h0
 refine ⟨by simpa using h.1, fun j hj => ?_, fun i hi => ?_⟩
 ·refine ⟨?_, ?_⟩
  ·by_cases e : j = k
   ·subst e; rw [hat]; rfl
   ·rw [hsame j e]; exact (h.2.1 j hj).1
  ·rw [e1, World.frozen?_setCells]; exact (h.2.1 j hj).2
 ·by_cases e : i = k
  ·subst e; exact hat
  ·rw [hsame i e]; exact h.2.2 i (by omega)
theorem FillI.made {w1 : World} {B : Nat} {z : List Value} {n : Nat} {l : List Int} (h : w1.ownsRow B 3 1 (.slice (some ⟨B, 0, none⟩) n n) n z) : FillI w1 B n l 0 := by
 obtain ⟨hl, h | ⟨g, cap, cur, e, hg, hc, h1, h2, h3, h4⟩⟩ := h
 ·simp at h
 ·simp at e
  obtain ⟨rfl, rfl⟩ := e
  have hlt : B < w1.heap.size := (Array.getElem?_eq_some_iff.1 hc).1
  refine ⟨hlt, fun j hj => ?_, fun i hi => by omega⟩
  have hj2 : j < cur.size := by omega
  simp [World.cell?, World.frozen?, hc, hj2]
theorem info3 : (Try.prog.info? 3).map (fun i => (i.zero, i.size, i.bytes)) = some (some (.int .i64 0), 1, 8) := by kernel_rfl
theorem info_parts {i : TypeId} {z : Option Value} {s b : Nat} (h : (Try.prog.info? i).map (fun i => (i.zero, i.size, i.bytes)) = some (z, s, b)) : ∃ i0, Try.prog.info? i = some i0 ∧ i0.zero = z ∧ i0.size = s ∧ i0.bytes = b := by
 obtain ⟨i0, h1, h2⟩ := Option.map_eq_some_iff.1 h
 simp only [Prod.mk.injEq] at h2
 exact ⟨i0, h1, h2.1, h2.2.1, h2.2.2⟩
set_option maxHeartbeats 1000000 in
theorem toI_any (x : Value) (l : List Int) (w : World) (hl : l.length ≤ 1048576) (h : IsI w x l) :
  Calls Try.prog 33 #[x] w fun e w' => e = .returned (sl w.heap.size l.length) ∧ Below w.heap.size w w' ∧ RowI w' w.heap.size l := by
 obtain ⟨a, cap, rfl, h1, h2, h⟩ := h
 rcases h with rfl | ⟨b, off, rfl, hb, h⟩
 ·obtain ⟨i0, hi, hz0, hz1, hz2⟩ := info_parts info3
  go_enter Try.func33, Try.ntmps33
  go_wp2_with (at_make; refine wpList_make_full _ rfl _ _ 22 rfl w.heap.size 3 i0 _ 1 Try.underlying22 hi hz0 hz1 .i64 .i64 0 0 0 rfl rfl rfl rfl (by rw [hz2]; omega) (by unfold maxLen; omega) (Nat.le_refl _) ?_; intro w1 hown hgrow)
  have hB1 : Below w.heap.size w w1 := (Below.refl _ _).grown hgrow (Nat.le_refl _) (fun k e => by cases e)
  have hR1 : RowI w1 w.heap.size [] := (FillI.made (n := 0) (l := []) hown).row
  clear hown hgrow hi hz0 hz1 hz2
  go_loop [4] (fun i => i = .int .i64 0) (fun _ => 0)
  case atStart => rfl
  case round =>
   subst hrel
   go_wp2
   go_ret
   exact ⟨rfl, hB1, hR1⟩
 ·have hp : (0 : Int) ≤ (l.length : Int) := by omega
  obtain ⟨i0, hi, hz0, hz1, hz2⟩ := info_parts info3
  go_enter Try.func33, Try.ntmps33
  go_wp2_with (at_make; refine wpList_make_full _ rfl _ _ 22 rfl w.heap.size 3 i0 _ 1 Try.underlying22 hi hz0 hz1 .i64 .i64 l.length l.length l.length rfl rfl rfl rfl (by rw [hz2]; omega) (by unfold maxLen; omega) (Nat.le_refl _) ?_; intro w1 hown hgrow)
  have hB1 : Below w.heap.size w w1 := (Below.refl _ _).grown hgrow (Nat.le_refl _) (fun k e => by cases e)
  have hR1 : FillI w1 w.heap.size l.length l 0 := FillI.made hown
  clear hown hgrow hi hz0 hz1 hz2
  go_loopw [4] (fun i wr => ∃ k : Nat, k ≤ l.length ∧ i = .int .i64 k ∧ Below w.heap.size w wr ∧ FillI wr w.heap.size l.length l k) (fun i _ => l.length - (intOf i).toNat)
  case atStart => exact ⟨0, Nat.zero_le _, rfl, hB1, hR1⟩
  case round =>
   obtain ⟨k, hk, rfl, hB, hR⟩ := hrel
   have HB : Hid (Below w.heap.size w wr) := hB
   have HR : Hid (FillI wr w.heap.size l.length l k) := hR
   by_cases hlt : k < l.length
   ·have f0 := (hB.cell (p := ⟨b, off + k, none⟩) hb).trans (h k hlt)
    obtain ⟨v, hv⟩ := Option.isSome_iff_exists.1 (hR.2.1 k hlt).1
    have hf := (hR.2.1 k hlt).2
    clear hB hR hB1 hR1 h
    go_wp2
    go_roundw
    case rel => exact ⟨k + 1, by omega, by go_num, HB.out.setCell (Nat.le_refl _) _, HR.out.put hlt⟩
    case measure => simp [intOf]; omega
   ·clear hB hR hB1 hR1 h
    go_wp2
    go_ret
    obtain rfl : k = l.length := by omega
    exact ⟨rfl, HB.out, HR.out.row⟩
end Go.Proofs.Ytdcnimdhfhbdmaa

/- toOp, toOpS: ops that are copied into a row of one's own. -/
namespace Go.Proofs.Ytdcnimdhfhbdmaa
open Go.RowKit
/- As far as k the block g holds the ops of l; all n rows of four cells may be written. -/
end Go.Proofs.Ytdcnimdhfhbdmaa

