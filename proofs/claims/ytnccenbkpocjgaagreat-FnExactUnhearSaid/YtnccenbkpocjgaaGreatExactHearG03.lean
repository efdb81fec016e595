/- MSz, MMarkH, MToH, MEq, Eqs, MBox -/
import Derived.Test.YtnccenbkpocjgaaGreatExactHearG01
import Derived.Test.YtnccenbkpocjgaaGreatExactHearG02
import Derived.Deep.RegionHeld3
/- szModel: whether there is too much of it. -/
namespace Go.Proofs.YtnccenbkpocjgaaGreat
open Go.RowKit
def szN (n left : Int) : Int := if left - n < 0 then -1 else left - n
set_option maxHeartbeats 400000 in
theorem szI_any (a : Option Addr) (n cap : Nat) (left : Int) (w : World) (hn : n ≤ maxLen) (h0 : 0 ≤ left) (h1 : left ≤ 1048576) :
  Calls Tryz.prog 31 #[.slice a n cap, .int .i64 left] w fun e w' => e = .returned (.int .i64 (szN n left)) ∧ w' = w := by
 unfold maxLen at hn
 by_cases hp : left - (n : Int) < 0
 ·go_enter Tryz.func31, Tryz.ntmps31
  go_wp2
  go_ret
  exact ⟨ret_int (by unfold szN; rw [if_pos hp]), rfl⟩
 ·go_enter Tryz.func31, Tryz.ntmps31
  go_wp2
  go_ret
  exact ⟨ret_int (by unfold szN; rw [if_neg (by omega)]), rfl⟩
set_option maxHeartbeats 400000 in
theorem szE_any (a : Option Addr) (n cap : Nat) (left : Int) (w : World) (hn : n ≤ maxLen) (h0 : 0 ≤ left) (h1 : left ≤ 1048576) :
  Calls Tryz.prog 33 #[.slice a n cap, .int .i64 left] w fun e w' => e = .returned (.int .i64 (szN n left)) ∧ w' = w := by
 unfold maxLen at hn
 by_cases hp : left - (n : Int) < 0
 ·go_enter Tryz.func33, Tryz.ntmps33
  go_wp2
  go_ret
  exact ⟨ret_int (by unfold szN; rw [if_pos hp]), rfl⟩
 ·go_enter Tryz.func33, Tryz.ntmps33
  go_wp2
  go_ret
  exact ⟨ret_int (by unfold szN; rw [if_neg (by omega)]), rfl⟩
def sumL (L : Nat → Nat) : Nat → Nat
 | 0 => 0
 | k + 1 => sumL L k + L k
end Go.Proofs.YtnccenbkpocjgaaGreat

/- markOpSS, heldOpSS. -/
namespace Go.Proofs.YtnccenbkpocjgaaGreat
open Go.RowKit
theorem sumL_mono (L : Nat → Nat) : ∀ {i j : Nat}, i ≤ j → sumL L i ≤ sumL L j := by
 intro i j h
 induction h with
 | refl => exact Nat.le_refl _
 | step _ ih => exact Nat.le_trans ih (by simp [sumL])
end Go.Proofs.YtnccenbkpocjgaaGreat

/- toOpSS: rows of ops, each copied into a row of its own. -/
namespace Go.Proofs.YtnccenbkpocjgaaGreat
open Go.RowKit
end Go.Proofs.YtnccenbkpocjgaaGreat

/- eqOp, eqOpS where both sides are the same. -/
namespace Go.Proofs.YtnccenbkpocjgaaGreat
open Go.RowKit
end Go.Proofs.YtnccenbkpocjgaaGreat

/- eqEvent and eqEventS where both sides are the same. -/
namespace Go.Proofs.YtnccenbkpocjgaaGreat
open Go.RowKit
set_option maxHeartbeats 1000000 in
theorem eqEvent_same (t s q d k v g : Int) (w : World) :
  Calls Tryz.prog 68 #[.agg #[.int .i64 t, .int .i64 s, .int .i64 q, .int .i64 d, .int .i64 k, .int .i64 v, .int .i64 g], .agg #[.int .i64 t, .int .i64 s, .int .i64 q, .int .i64 d, .int .i64 k, .int .i64 v, .int .i64 g]] w fun e w' => e = .returned (.bool true) ∧ Below w.heap.size w w' := by
 go_enter Tryz.func68, Tryz.ntmps68
 go_wp2
 go_ret
 exact ⟨rfl, ((Below.refl _ _).alloc (Nat.le_refl _) _).alloc (by simp) _⟩
set_option maxHeartbeats 1000000 in
theorem eqS_same (x y : Value) (l : List Ev) (w : World) (hl : l.length ≤ 1048576) (hx : IsEvs w x l) (hy : IsEvs w y l) :
  Calls Tryz.prog 21 #[x, y] w fun e w' => e = .returned (.bool true) ∧ Below w.heap.size w w' := by
 obtain ⟨a, cap, rfl, h1, h2, h⟩ := hx
 obtain ⟨a', cap', rfl, h1', h2', h'⟩ := hy
 clear h1 h2 h1' h2'
 by_cases hz : l = []
 ·subst hz
  clear h h'
  go_enter Tryz.func21, Tryz.ntmps21
  go_wp2
  go_loop [5] (fun i => i = .int .i64 0) (fun _ => 0)
  case atStart => rfl
  case round =>
   subst hrel
   go_wp2
   go_ret
   exact ⟨rfl, Below.refl _ _⟩
 ·obtain ⟨b, off, rfl, hb, hc⟩ := h.resolve_left hz
  obtain ⟨b', off', rfl, hb', hc'⟩ := h'.resolve_left hz
  clear h h' hz
  go_enter Tryz.func21, Tryz.ntmps21
  go_wp2
  go_loopw [5] (fun i wr => ∃ k : Nat, k ≤ l.length ∧ i = .int .i64 k ∧ Below w.heap.size w wr) (fun i _ => l.length - (intOf i).toNat)
  case atStart => exact ⟨0, Nat.zero_le _, rfl, Below.refl _ _⟩
  case round =>
   obtain ⟨k, hk, rfl, hB⟩ := hrel
   have HB : Hid (Below w.heap.size w wr) := hB
   by_cases hlt : k < l.length
   ·obtain ⟨f0, f1, f2, f3, f4, f5, f6⟩ := (hc k hlt).below hB hb
    obtain ⟨e0, e1, e2, e3, e4, e5, e6⟩ := (hc' k hlt).below hB hb'
    have hbr : b < wr.heap.size := Nat.lt_of_lt_of_le hb hB.size
    have hbr' : b' < wr.heap.size := Nat.lt_of_lt_of_le hb' hB.size
    clear hB hc hc'
    go_wp2_with fail
    go_region_held3 (fun W => W.cell? ⟨b, off + k * 7, none⟩ = some (.int .i64 (evAt l k).t) ∧ W.cell? ⟨b, off + k * 7 + 1, none⟩ = some (.int .i64 (evAt l k).s) ∧ W.cell? ⟨b, off + k * 7 + 2, none⟩ = some (.int .i64 (evAt l k).q) ∧ W.cell? ⟨b, off + k * 7 + 3, none⟩ = some (.int .i64 (evAt l k).d) ∧ W.cell? ⟨b, off + k * 7 + 4, none⟩ = some (.int .i64 (evAt l k).k) ∧ W.cell? ⟨b, off + k * 7 + 5, none⟩ = some (.int .i64 (evAt l k).v) ∧ W.cell? ⟨b, off + k * 7 + 6, none⟩ = some (.int .i64 (evAt l k).g) ∧ W.cell? ⟨b', off' + k * 7, none⟩ = some (.int .i64 (evAt l k).t) ∧ W.cell? ⟨b', off' + k * 7 + 1, none⟩ = some (.int .i64 (evAt l k).s) ∧ W.cell? ⟨b', off' + k * 7 + 2, none⟩ = some (.int .i64 (evAt l k).q) ∧ W.cell? ⟨b', off' + k * 7 + 3, none⟩ = some (.int .i64 (evAt l k).d) ∧ W.cell? ⟨b', off' + k * 7 + 4, none⟩ = some (.int .i64 (evAt l k).k) ∧ W.cell? ⟨b', off' + k * 7 + 5, none⟩ = some (.int .i64 (evAt l k).v) ∧ W.cell? ⟨b', off' + k * 7 + 6, none⟩ = some (.int .i64 (evAt l k).g)) ((repeat' apply And.intro) <;> first | (go_keep; done) | (rw [hcA _ _ (by first | omega | (simp; omega) | simp [*])]; simp [*]; done))
     (first | (go_at_call 68; refine (eqEvent_same _ _ _ _ _ _ _ _).mono ?_; rintro e w2 ⟨rfl, hb2⟩; obtain ⟨hcA, hfA⟩ := bcell hb2))
    clear hcA hfA
    go_wp2
    go_roundw
    case rel => exact ⟨k + 1, by omega, by go_num, HB.out.drew.trans (hb2.mono (by have := HB.out.size; simpa using this))⟩
    case measure => simp [intOf]; omega
   ·clear hB hc hc'
    go_wp2
    go_ret
    exact ⟨rfl, HB.out⟩
end Go.Proofs.YtnccenbkpocjgaaGreat

/- A struct in a block of its own. -/
namespace Go.Proofs.YtnccenbkpocjgaaGreat
open Go.RowKit
def Bk (w : World) (P : Nat) (T : TypeId) (vs : Array Value) : Prop := w.heap[P]? = some (.cells vs T)
theorem Bk.lt {w : World} {P : Nat} {T : TypeId} {vs : Array Value} (h : Bk w P T vs) : P < w.heap.size := (Array.getElem?_eq_some_iff.1 h).1
theorem Bk.cell {w : World} {P : Nat} {T : TypeId} {vs : Array Value} (h : Bk w P T vs) {i : Nat} {v : Value} (hv : vs[i]? = some v) : w.cell? ⟨P, i, none⟩ = some v := by
 have h' : w.heap[P]? = some (.cells vs T) := h
 unfold World.cell?
 simp [h', hv]
theorem Bk.free {w : World} {P : Nat} {T : TypeId} {vs : Array Value} (h : Bk w P T vs) (o : Nat) : w.frozen? ⟨P, o, none⟩ = false := by
 have h' : w.heap[P]? = some (.cells vs T) := h
 unfold World.frozen?
 simp [h']
theorem Bk.keep {w w' : World} {B P : Nat} {T : TypeId} {vs : Array Value} (h : Bk w P T vs) (hb : Below B w w') (hB : P < B) : Bk w' P T vs := (hb.block P hB).trans h
theorem Bk.below {w w' : World} {P : Nat} {T : TypeId} {vs : Array Value} (h : Bk w P T vs) (hb : Below w.heap.size w w') : Bk w' P T vs := h.keep hb h.lt
theorem Bk.turns {S : Nat → Prop} {w w' : World} {P : Nat} {T : TypeId} {vs : Array Value} (h : Bk w P T vs) (ht : Turns S w w') (hS : ¬ S P) : Bk w' P T vs := (ht.block P h.lt hS).trans h
theorem Bk.drew {w : World} {P : Nat} {T : TypeId} {vs : Array Value} (h : Bk w P T vs) : Bk w.drew P T vs := h
theorem Bk.new (w : World) (T : TypeId) (vs : Array Value) : Bk (w.alloc (.cells vs T)) w.heap.size T vs := by
 show (w.heap.push _)[w.heap.size]? = _
 simp
theorem Bk.newAt {w : World} {P : Nat} (hP : P = w.heap.size) (T : TypeId) (vs : Array Value) : Bk (w.alloc (.cells vs T)) P T vs := hP ▸ Bk.new w T vs
theorem Bk.alloc {w : World} {P : Nat} {T : TypeId} {vs : Array Value} (h : Bk w P T vs) (o : Obj) : Bk (w.alloc o) P T vs := h.keep ((Below.refl w.heap.size w).alloc (Nat.le_refl _) o) h.lt
theorem Bk.put {w : World} {P : Nat} {T : TypeId} {vs : Array Value} (h : Bk w P T vs) (i : Nat) (v : Value) : Bk (w.setCell ⟨P, i, none⟩ v) P T (vs.setIfInBounds i v) := by
 have h' : w.heap[P]? = some (.cells vs T) := h
 obtain ⟨hl, hv⟩ := Array.getElem?_eq_some_iff.1 h'
 unfold Bk
 simp [World.setCell, hl, Array.getElem_modify, hv]
theorem Bk.other {w : World} {P b : Nat} {T : TypeId} {vs : Array Value} (h : Bk w P T vs) (i : Nat) (v : Value) (hb : P ≠ b) : Bk (w.setCell ⟨b, i, none⟩ v) P T vs :=
 (Below.heap_setCell _ _ _ _ hb).trans h
theorem put1_turns (w : World) (g o : Nat) (u : Value) : Turns (fun b => b = g) w (w.setCell ⟨g, o, none⟩ u) := (Turns.refl (fun b => b = g) w).setCell (p := ⟨g, o, none⟩) rfl _
end Go.Proofs.YtnccenbkpocjgaaGreat

