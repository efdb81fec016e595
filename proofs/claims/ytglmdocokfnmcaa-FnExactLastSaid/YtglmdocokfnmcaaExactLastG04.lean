/- MMarkH, MToH, MEq, Eqs, MBox, MModel -/
import Derived.Test.YtglmdocokfnmcaaExactLastG03
import Derived.Test.YtglmdocokfnmcaaExactLastG02
import Derived.Test.YtglmdocokfnmcaaExactLastG01
import Derived.Deep.RegionHeld3
import Derived.Test.YtglmdocokfnmcaaExactLastG00
/- markOpSS, heldOpSS. -/
namespace Go.Proofs.Ytglmdocokfnmcaa
open Go.RowKit
theorem sumL_mono (L : Nat → Nat) : ∀ {i j : Nat}, i ≤ j → sumL L i ≤ sumL L j := by
  intro i j h
  induction h with
  | refl => exact Nat.le_refl _
  | step _ ih => exact Nat.le_trans ih (by simp [sumL])
theorem RowsF.step {F : Nat → Prop} {w : World} {x : Value} {n : Nat} {U : Nat → Value} {L : Nat → Nat} {C : Nat → List Value} (h : RowsF F w x n U L C) {k : Nat} (hk : k < n) :
    ∃ K : Nat → Prop, RowF K w (U k) (L k) 4 (C k) ∧ (∀ b, K b → F b) ∧ ∀ w' cs, RowF K w' (U k) (L k) 4 cs → Turns K w w' → RowsF F w' x n U L (fun i => if i = k then cs else C i) := by
  obtain ⟨F0, G, h0, hF, h1, h2⟩ := h
  refine ⟨G k, (h1 k hk).1, fun b hb => ((h1 k hk).2 b hb).1, fun w' cs hr ht => ⟨F0, G, h0.turns ht (fun b hb hg => ((h1 k hk).2 b hg).2 hb), hF, fun i hi => ⟨?_, (h1 i hi).2⟩, h2⟩⟩
  by_cases e : i = k
  · subst e
    simpa using hr
  · simp only [if_neg e]
    exact (h1 i hi).1.turns ht (fun b hb hg => h2 i k hi hk e b hb hg)
theorem RowsF.slice {F : Nat → Prop} {w : World} {x : Value} {n : Nat} {U : Nat → Value} {L : Nat → Nat} {C : Nat → List Value} (h : RowsF F w x n U L C) : ∃ a cap, x = .slice a n cap ∧ (n = 0 ∨ ∃ g, a = some ⟨g, 0, none⟩) := by
  obtain ⟨F0, G, ⟨_, a, cap, e, _, _, h⟩, _⟩ := h
  exact ⟨a, cap, e, h.imp id (fun ⟨g, e, _⟩ => ⟨g, e⟩)⟩
theorem RowsF.cell {F : Nat → Prop} {w : World} {n cap g : Nat} {U : Nat → Value} {L : Nat → Nat} {C : Nat → List Value} (h : RowsF F w (.slice (some ⟨g, 0, none⟩) n cap) n U L C) {i : Nat} (hi : i < n) : w.cell? ⟨g, i, none⟩ = some (U i) := by
  obtain ⟨F0, G, ⟨_, a, cap', e, _, _, h⟩, _⟩ := h
  rcases h with h | ⟨g', e', _, _, hc⟩
  · omega
  · subst e'
    simp at e
    obtain ⟨rfl, rfl⟩ := e
    rw [(hc i (by omega)).1]
    simp [hi]
theorem RowsF.len {F : Nat → Prop} {w : World} {x : Value} {n : Nat} {U : Nat → Value} {L : Nat → Nat} {C : Nat → List Value} (h : RowsF F w x n U L C) {i : Nat} (hi : i < n) : ∃ a cap, U i = .slice a (L i) cap := by
  obtain ⟨F0, G, _, _, h1, _⟩ := h
  obtain ⟨⟨_, a, cap, e, _⟩, _⟩ := h1 i hi
  exact ⟨a, cap, e⟩
def mkRows (z : Int) (L : Nat → Nat) (i : Nat) : List Value := mkCells (z + 4 * (sumL L i : Int)) (L i * 4)
theorem RowsF.congr {F : Nat → Prop} {w : World} {x : Value} {n : Nat} {U : Nat → Value} {L : Nat → Nat} {C C' : Nat → List Value} (h : RowsF F w x n U L C) (hC : ∀ i, i < n → C i = C' i) : RowsF F w x n U L C' := by
  obtain ⟨F0, G, h0, hF, h1, h2⟩ := h
  exact ⟨F0, G, h0, hF, fun i hi => by rw [← hC i hi]; exact h1 i hi, h2⟩

end Go.Proofs.Ytglmdocokfnmcaa

/- toOpSS: rows of ops, each copied into a row of its own. -/
namespace Go.Proofs.Ytglmdocokfnmcaa
open Go.RowKit
theorem OAt.turns {S : Nat → Prop} {w w' : World} {b o : Nat} {e : O} (h : OAt w b o e) (ht : Turns S w w') (hb : b < w.heap.size) (hS : ¬ S b) : OAt w' b o e :=
  ⟨(ht.cell hb hS).trans h.f0, (ht.cell hb hS).trans h.f1, (ht.cell hb hS).trans h.f2, (ht.cell hb hS).trans h.f3⟩
theorem FillO.turns {S : Nat → Prop} {w w' : World} {g n k : Nat} {l : List O} (h : FillO w g n l k) (ht : Turns S w w') (hS : ¬ S g) : FillO w' g n l k :=
  ⟨Nat.lt_of_lt_of_le h.1 ht.size, fun j hj => by rw [ht.cell h.1 hS, ht.frozen h.1 hS]; exact h.2.1 j hj, fun i hi => (h.2.2 i hi).turns ht h.1 hS⟩
/- As far as k the block g holds rows of their own, each in a block of its own, later ones in later blocks. -/
def FillH (w : World) (g n : Nat) (l : List (List O)) (k : Nat) : Prop := g < w.heap.size ∧ (∀ j, j < n → (w.cell? ⟨g, j, none⟩).isSome = true ∧ w.frozen? ⟨g, j, none⟩ = false) ∧
  ∃ G : Nat → Nat, ∀ i, i < k → w.cell? ⟨g, i, none⟩ = some (sl (G i) (hAt l i).length) ∧ FillO w (G i) (hAt l i).length (hAt l i) (hAt l i).length ∧ g < G i ∧ ∀ j, j < i → G j < G i
theorem FillH.below {w w' : World} {g n k : Nat} {l : List (List O)} (h : FillH w g n l k) (hb : Below w.heap.size w w') : FillH w' g n l k := by
  obtain ⟨h1, h2, G, h3⟩ := h
  refine ⟨Nat.lt_of_lt_of_le h1 hb.size, fun j hj => by rw [hb.cell (p := ⟨g, j, none⟩) h1, hb.frozen (p := ⟨g, j, none⟩) h1]; exact h2 j hj, G, fun i hi => ?_⟩
  obtain ⟨a, b, c, d⟩ := h3 i hi
  exact ⟨(hb.cell (p := ⟨g, i, none⟩) h1).trans a, b.below hb b.1, c, d⟩
theorem FillH.put {w : World} {g n k R : Nat} {l : List (List O)} (h : FillH w g n l k) (hk : k < n) (hr : FillO w R (hAt l k).length (hAt l k) (hAt l k).length) (hg : g < R) (hnew : ∀ j, j < k → ∀ r, w.cell? ⟨g, j, none⟩ = some (sl r (hAt l j).length) → r < R) :
    FillH (w.setCell ⟨g, k, none⟩ (sl R (hAt l k).length)) g n l (k + 1) := by
  obtain ⟨h1, h2, G, h3⟩ := h
  have e1 : w.setCell ⟨g, k, none⟩ (sl R (hAt l k).length) = w.setCells g k [sl R (hAt l k).length] := rfl
  have hsame : ∀ j, j ≠ k → (w.setCell ⟨g, k, none⟩ (sl R (hAt l k).length)).cell? ⟨g, j, none⟩ = w.cell? ⟨g, j, none⟩ := fun j hj => by
    rw [e1]
    exact World.cell?_setCells_out g _ k w ⟨g, j, none⟩ (fun _ _ => by simp; omega)
  have hat : (w.setCell ⟨g, k, none⟩ (sl R (hAt l k).length)).cell? ⟨g, k, none⟩ = some (sl R (hAt l k).length) := by
    rw [e1]
    have h0 := World.cell?_setCells_in g [sl R (hAt l k).length] k w (fun j hj => by
      obtain rfl : j = 0 := by simpa using hj
      exact (h2 k hk).1) 0 (by simp)
    simpa using h0
  have ht : Turns (fun b => b = g) w (w.setCell ⟨g, k, none⟩ (sl R (hAt l k).length)) := (Turns.refl (fun b => b = g) w).setCell (p := ⟨g, k, none⟩) rfl _
  refine ⟨by simpa using h1, fun j hj => ⟨?_, ?_⟩, fun i => if i = k then R else G i, fun i hi => ?_⟩
  · by_cases e : j = k
    · subst e; rw [hat]; rfl
    · rw [hsame j e]; exact (h2 j hj).1
  · rw [e1, World.frozen?_setCells]; exact (h2 j hj).2
  · by_cases e : i = k
    · subst e
      simp only [if_true]
      refine ⟨hat, hr.turns ht (by omega), hg, fun j hj => ?_⟩
      rw [if_neg (by omega)]
      exact hnew j hj _ (h3 j hj).1
    · obtain ⟨a, b, c, d⟩ := h3 i (by omega)
      simp only [if_neg e]
      refine ⟨(hsame i e).trans a, b.turns ht (by omega), c, fun j hj => ?_⟩
      rw [if_neg (by omega)]
      exact d j hj
theorem FillH.old {w : World} {g n k : Nat} {l : List (List O)} (h : FillH w g n l k) : ∀ j, j < k → ∀ r, w.cell? ⟨g, j, none⟩ = some (sl r (hAt l j).length) → r < w.heap.size := by
  obtain ⟨h1, h2, G, h3⟩ := h
  intro j hj r hr
  obtain ⟨a, b, _⟩ := h3 j hj
  rw [a] at hr
  simp at hr
  exact hr ▸ b.1
theorem FillH.rows {w : World} {g : Nat} {l : List (List O)} (h : FillH w g l.length l l.length) (hl : l.length ≤ maxLen) (hr : ∀ i, (hAt l i).length ≤ maxLen) : HsF (fun k => g ≤ k ∧ k < w.heap.size) w (sl g l.length) l := by
  obtain ⟨h1, h2, G, h3⟩ := h
  refine ⟨fun i => sl (G i) (hAt l i).length, fun k => k = g, fun i k => k = G i, ⟨by simp, _, _, rfl, Nat.le_refl _, hl, .inr ⟨g, rfl, rfl, h1, fun j hj => ?_⟩⟩, fun k e => by subst e; exact ⟨Nat.le_refl _, h1⟩, fun i hi => ⟨(h3 i hi).2.1.row (hr i), fun k e => ?_⟩, fun i j hi hj hij k e1 e2 => ?_⟩
  · have hj' : j < l.length := by omega
    refine ⟨?_, (h2 j hj').2⟩
    rw [(h3 j hj').1]
    simp [hj']
  · obtain ⟨_, b, c, _⟩ := h3 i hi
    subst e
    exact ⟨⟨Nat.le_of_lt c, b.1⟩, by omega⟩
  · rcases Nat.lt_or_gt_of_ne hij with h | h
    · have := (h3 j hj).2.2.2 i h; omega
    · have := (h3 i hi).2.2.2 j h; omega
end Go.Proofs.Ytglmdocokfnmcaa

/- eqOp, eqOpS where both sides are the same. -/
namespace Go.Proofs.Ytglmdocokfnmcaa
open Go.RowKit
/- eqOpSS where both sides are the same. -/
theorem IsO.slice {w : World} {u : Value} {l : List O} (h : IsO w u l) : ∃ a cap, u = .slice a l.length cap := by
  obtain ⟨a, cap, e, _⟩ := h
  exact ⟨a, cap, e⟩
end Go.Proofs.Ytglmdocokfnmcaa

/- eqEvent and eqEventS where both sides are the same. -/
namespace Go.Proofs.Ytglmdocokfnmcaa
open Go.RowKit
set_option maxHeartbeats 1000000 in
theorem eqEvent_same (t s q d k v g : Int) (w : World) :
    Calls Try.prog 15 #[.agg #[.int .i64 t, .int .i64 s, .int .i64 q, .int .i64 d, .int .i64 k, .int .i64 v, .int .i64 g], .agg #[.int .i64 t, .int .i64 s, .int .i64 q, .int .i64 d, .int .i64 k, .int .i64 v, .int .i64 g]] w fun e w' => e = .returned (.bool true) ∧ Below w.heap.size w w' := by
  go_enter Try.func15, Try.ntmps15
  go_wp2
  go_ret
  exact ⟨rfl, ((Below.refl _ _).alloc (Nat.le_refl _) _).alloc (by simp) _⟩

set_option maxHeartbeats 1000000 in
theorem eqS_same (x y : Value) (l : List Ev) (w : World) (hl : l.length ≤ 1048576) (hx : IsEvs w x l) (hy : IsEvs w y l) :
    Calls Try.prog 28 #[x, y] w fun e w' => e = .returned (.bool true) ∧ Below w.heap.size w w' := by
  obtain ⟨a, cap, rfl, h1, h2, h⟩ := hx
  obtain ⟨a', cap', rfl, h1', h2', h'⟩ := hy
  clear h1 h2 h1' h2'
  by_cases hz : l = []
  · subst hz
    clear h h'
    go_enter Try.func28, Try.ntmps28
    go_wp2
    go_loop [5] (fun i => i = .int .i64 0) (fun _ => 0)
    case atStart => rfl
    case round =>
      subst hrel
      go_wp2
      go_ret
      exact ⟨rfl, Below.refl _ _⟩
  · obtain ⟨b, off, rfl, hb, hc⟩ := h.resolve_left hz
    obtain ⟨b', off', rfl, hb', hc'⟩ := h'.resolve_left hz
    clear h h' hz
    go_enter Try.func28, Try.ntmps28
    go_wp2
    go_loopw [5] (fun i wr => ∃ k : Nat, k ≤ l.length ∧ i = .int .i64 k ∧ Below w.heap.size w wr) (fun i _ => l.length - (intOf i).toNat)
    case atStart => exact ⟨0, Nat.zero_le _, rfl, Below.refl _ _⟩
    case round =>
      obtain ⟨k, hk, rfl, hB⟩ := hrel
      have HB : Hid (Below w.heap.size w wr) := hB
      by_cases hlt : k < l.length
      · obtain ⟨f0, f1, f2, f3, f4, f5, f6⟩ := (hc k hlt).below hB hb
        obtain ⟨e0, e1, e2, e3, e4, e5, e6⟩ := (hc' k hlt).below hB hb'
        have hbr : b < wr.heap.size := Nat.lt_of_lt_of_le hb hB.size
        have hbr' : b' < wr.heap.size := Nat.lt_of_lt_of_le hb' hB.size
        clear hB hc hc'
        go_wp2_with fail
        go_region_held3 (fun W => W.cell? ⟨b, off + k * 7, none⟩ = some (.int .i64 (evAt l k).t) ∧ W.cell? ⟨b, off + k * 7 + 1, none⟩ = some (.int .i64 (evAt l k).s) ∧ W.cell? ⟨b, off + k * 7 + 2, none⟩ = some (.int .i64 (evAt l k).q) ∧ W.cell? ⟨b, off + k * 7 + 3, none⟩ = some (.int .i64 (evAt l k).d) ∧ W.cell? ⟨b, off + k * 7 + 4, none⟩ = some (.int .i64 (evAt l k).k) ∧ W.cell? ⟨b, off + k * 7 + 5, none⟩ = some (.int .i64 (evAt l k).v) ∧ W.cell? ⟨b, off + k * 7 + 6, none⟩ = some (.int .i64 (evAt l k).g) ∧ W.cell? ⟨b', off' + k * 7, none⟩ = some (.int .i64 (evAt l k).t) ∧ W.cell? ⟨b', off' + k * 7 + 1, none⟩ = some (.int .i64 (evAt l k).s) ∧ W.cell? ⟨b', off' + k * 7 + 2, none⟩ = some (.int .i64 (evAt l k).q) ∧ W.cell? ⟨b', off' + k * 7 + 3, none⟩ = some (.int .i64 (evAt l k).d) ∧ W.cell? ⟨b', off' + k * 7 + 4, none⟩ = some (.int .i64 (evAt l k).k) ∧ W.cell? ⟨b', off' + k * 7 + 5, none⟩ = some (.int .i64 (evAt l k).v) ∧ W.cell? ⟨b', off' + k * 7 + 6, none⟩ = some (.int .i64 (evAt l k).g)) ((repeat' apply And.intro) <;> first | (go_keep; done) | (rw [hcA _ _ (by first | omega | (simp; omega) | simp [*])]; simp [*]; done))
          (first | (go_at_call 15; refine (eqEvent_same _ _ _ _ _ _ _ _).mono ?_; rintro e w2 ⟨rfl, hb2⟩; obtain ⟨hcA, hfA⟩ := bcell hb2))
        clear hcA hfA
        go_wp2
        go_roundw
        case rel => exact ⟨k + 1, by omega, by go_num, HB.out.drew.trans (hb2.mono (by have := HB.out.size; simpa using this))⟩
        case measure => simp [intOf]; omega
      · clear hB hc hc'
        go_wp2
        go_ret
        exact ⟨rfl, HB.out⟩
end Go.Proofs.Ytglmdocokfnmcaa

/- A struct in a block of its own. -/
namespace Go.Proofs.Ytglmdocokfnmcaa
open Go.RowKit
/- Block P holds just the cells vs. -/
def Bk (w : World) (P : Nat) (T : TypeId) (vs : Array Value) : Prop := w.heap[P]? = some (.cells vs T)
theorem Bk.lt {w : World} {P : Nat} {T : TypeId} {vs : Array Value} (h : Bk w P T vs) : P < w.heap.size := (Array.getElem?_eq_some_iff.1 h).1
theorem Bk.cell {w : World} {P : Nat} {T : TypeId} {vs : Array Value} (h : Bk w P T vs) {i : Nat} {v : Value} (hv : vs[i]? = some v) : w.cell? ⟨P, i, none⟩ = some v := by
  have h' : w.heap[P]? = some (.cells vs T) := h
  unfold World.cell?
  simp [h', hv]
theorem Bk.free {w : World} {P : Nat} {T : TypeId} {vs : Array Value} (h : Bk w P T vs) (o : Nat) : w.frozen? ⟨P, o, none⟩ = false := by
  have h' : w.heap[P]? = some (.cells vs T) := h
  unfold World.frozen?
  simp [h']
theorem Bk.keep {w w' : World} {B P : Nat} {T : TypeId} {vs : Array Value} (h : Bk w P T vs) (hb : Below B w w') (hB : P < B) : Bk w' P T vs := (hb.block P hB).trans h
theorem Bk.below {w w' : World} {P : Nat} {T : TypeId} {vs : Array Value} (h : Bk w P T vs) (hb : Below w.heap.size w w') : Bk w' P T vs := h.keep hb h.lt
theorem Bk.turns {S : Nat → Prop} {w w' : World} {P : Nat} {T : TypeId} {vs : Array Value} (h : Bk w P T vs) (ht : Turns S w w') (hS : ¬ S P) : Bk w' P T vs := (ht.block P h.lt hS).trans h
theorem Bk.drew {w : World} {P : Nat} {T : TypeId} {vs : Array Value} (h : Bk w P T vs) : Bk w.drew P T vs := h
theorem Bk.new (w : World) (T : TypeId) (vs : Array Value) : Bk (w.alloc (.cells vs T)) w.heap.size T vs := by
  show (w.heap.push _)[w.heap.size]? = _
  simp
theorem Bk.newAt {w : World} {P : Nat} (hP : P = w.heap.size) (T : TypeId) (vs : Array Value) : Bk (w.alloc (.cells vs T)) P T vs := hP ▸ Bk.new w T vs
theorem Bk.alloc {w : World} {P : Nat} {T : TypeId} {vs : Array Value} (h : Bk w P T vs) (o : Obj) : Bk (w.alloc o) P T vs := h.keep ((Below.refl w.heap.size w).alloc (Nat.le_refl _) o) h.lt
theorem Bk.put {w : World} {P : Nat} {T : TypeId} {vs : Array Value} (h : Bk w P T vs) (i : Nat) (v : Value) : Bk (w.setCell ⟨P, i, none⟩ v) P T (vs.setIfInBounds i v) := by
  have h' : w.heap[P]? = some (.cells vs T) := h
  obtain ⟨hl, hv⟩ := Array.getElem?_eq_some_iff.1 h'
  unfold Bk
  simp [World.setCell, hl, Array.getElem_modify, hv]
theorem Bk.other {w : World} {P b : Nat} {T : TypeId} {vs : Array Value} (h : Bk w P T vs) (i : Nat) (v : Value) (hb : P ≠ b) : Bk (w.setCell ⟨b, i, none⟩ v) P T vs :=
  (Below.heap_setCell _ _ _ _ hb).trans h
theorem put1_turns (w : World) (g o : Nat) (u : Value) : Turns (fun b => b = g) w (w.setCell ⟨g, o, none⟩ u) := (Turns.refl (fun b => b = g) w).setCell (p := ⟨g, o, none⟩) rfl _
abbrev put6 (w : World) (R : Nat) (v0 v1 v2 v3 v4 v5 : Value) : World :=
  (((((w.setCell ⟨R, 0, none⟩ v0).setCell ⟨R, 1, none⟩ v1).setCell ⟨R, 2, none⟩ v2).setCell ⟨R, 3, none⟩ v3).setCell ⟨R, 4, none⟩ v4).setCell ⟨R, 5, none⟩ v5
theorem Bk.put6 {w : World} {R : Nat} {T : TypeId} {a0 a1 a2 a3 a4 a5 : Value} (h : Bk w R T #[a0, a1, a2, a3, a4, a5]) (v0 v1 v2 v3 v4 v5 : Value) : Bk (put6 w R v0 v1 v2 v3 v4 v5) R T #[v0, v1, v2, v3, v4, v5] :=
  (((((h.put 0 v0).put 1 v1).put 2 v2).put 3 v3).put 4 v4).put 5 v5
theorem put6_turns (w : World) (R : Nat) (v0 v1 v2 v3 v4 v5 : Value) : Turns (fun b => b = R) w (put6 w R v0 v1 v2 v3 v4 v5) :=
  (((((put1_turns w R 0 v0).trans (put1_turns _ R 1 v1)).trans (put1_turns _ R 2 v2)).trans (put1_turns _ R 3 v3)).trans (put1_turns _ R 4 v4)).trans (put1_turns _ R 5 v5)
end Go.Proofs.Ytglmdocokfnmcaa

/- toModel, szModel, eqModel, markModel, heldModel. -/
namespace Go.Proofs.Ytglmdocokfnmcaa
open Go.RowKit
/- How much of a model there may be. -/
structure SmallM (m : Md) : Prop where
  i : m.i.length ≤ 1048576
  h : m.h.length ≤ 1048576
  r : ∀ i, (hAt m.h i).length ≤ 1048576
  t : sumL (lens m.h) m.h.length ≤ 1048576
  e : m.e.length ≤ 1048576
theorem RowI.rowF {w : World} {g : Nat} {l : List Int} (h : RowI w g l) (hl : l.length ≤ maxLen) : RowF (fun k => k = g) w (sl g l.length) l.length 1 (intCells l) := by
  refine ⟨by simp [intCells], _, _, rfl, Nat.le_refl _, hl, .inr ⟨g, rfl, rfl, h.1, fun j hj => ⟨?_, (h.2 j (by omega)).2⟩⟩⟩
  have hj' : j < l.length := by omega
  rw [(h.2 j hj').1]
  simp [intCells, intAt, hj']
theorem RowTo.rowF {w : World} {g : Nat} {l : List Ev} (h : RowTo w g l.length l l.length) (hl : l.length ≤ maxLen) : RowF (fun k => k = g) w (sl g l.length) l.length 7 (cellsL l) := by
  refine ⟨cellsL_length l, _, _, rfl, Nat.le_refl _, hl, .inr ⟨g, rfl, rfl, h.1, fun j hj => ⟨?_, (h.2.1 j hj).2⟩⟩⟩
  have hi : j / 7 < l.length := by omega
  have e := cellsL_get l _ (j % 7) hi (by omega)
  rw [show j / 7 * 7 + j % 7 = j from by omega] at e
  have hlt : j < (cellsL l).length := by rw [cellsL_length]; exact hj
  rw [List.getElem?_eq_getElem hlt] at e ⊢
  have := (h.2.2 _ hi).get e.symm
  rw [show j / 7 * 7 + j % 7 = j from by omega] at this
  exact this
end Go.Proofs.Ytglmdocokfnmcaa

