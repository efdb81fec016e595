/- MBox, MModel, MLaw, EEm, Find, Rowed, OwnE, Quiet, SSt, SOk -/
import Derived.Test.YtdcnimdhfhbdmaaExactBackG00
import Derived.Test.YtdcnimdhfhbdmaaExactBackG01
import Derived.Deep.RegionLaw
import Derived.Laws.OwnMore
import Derived.WalkSmall
import Derived.Laws.AppendOwnNone
import Derived.Deep.QuietTactic
import Derived.BigQuiet
/- A struct in a block of its own. -/
namespace Go.Proofs.Ytdcnimdhfhbdmaa
open Go.RowKit
/- Block P holds just the cells vs. -/
def Bk (w : World) (P : Nat) (T : TypeId) (vs : Array Value) : Prop := w.heap[P]? = some (.cells vs T)
theorem Bk.lt {w : World} {P : Nat} {T : TypeId} {vs : Array Value} (h : Bk w P T vs) : P < w.heap.size := (Array.getElem?_eq_some_iff.1 h).1
theorem Bk.cell {w : World} {P : Nat} {T : TypeId} {vs : Array Value} (h : Bk w P T vs) {i : Nat} {v : Value} (hv : vs[i]? = some v) : w.cell? ⟨P, i, none⟩ = some v := by
  have h' : w.heap[P]? = some (.cells vs T) := h
  unfold World.cell?
  simp [h', hv]
theorem Bk.free {w : World} {P : Nat} {T : TypeId} {vs : Array Value} (h : Bk w P T vs) (o : Nat) : w.frozen? ⟨P, o, none⟩ = false := by
  have h' : w.heap[P]? = some (.cells vs T) := h
  unfold World.frozen?
  simp [h']
theorem Bk.keep {w w' : World} {B P : Nat} {T : TypeId} {vs : Array Value} (h : Bk w P T vs) (hb : Below B w w') (hB : P < B) : Bk w' P T vs := (hb.block P hB).trans h
theorem Bk.below {w w' : World} {P : Nat} {T : TypeId} {vs : Array Value} (h : Bk w P T vs) (hb : Below w.heap.size w w') : Bk w' P T vs := h.keep hb h.lt
theorem Bk.turns {S : Nat → Prop} {w w' : World} {P : Nat} {T : TypeId} {vs : Array Value} (h : Bk w P T vs) (ht : Turns S w w') (hS : ¬ S P) : Bk w' P T vs := (ht.block P h.lt hS).trans h
theorem Bk.drew {w : World} {P : Nat} {T : TypeId} {vs : Array Value} (h : Bk w P T vs) : Bk w.drew P T vs := h
theorem Bk.new (w : World) (T : TypeId) (vs : Array Value) : Bk (w.alloc (.cells vs T)) w.heap.size T vs := by
  show (w.heap.push _)[w.heap.size]? = _
  simp
theorem Bk.newAt {w : World} {P : Nat} (hP : P = w.heap.size) (T : TypeId) (vs : Array Value) : Bk (w.alloc (.cells vs T)) P T vs := hP ▸ Bk.new w T vs
theorem Bk.alloc {w : World} {P : Nat} {T : TypeId} {vs : Array Value} (h : Bk w P T vs) (o : Obj) : Bk (w.alloc o) P T vs := h.keep ((Below.refl w.heap.size w).alloc (Nat.le_refl _) o) h.lt
theorem Bk.put {w : World} {P : Nat} {T : TypeId} {vs : Array Value} (h : Bk w P T vs) (i : Nat) (v : Value) : Bk (w.setCell ⟨P, i, none⟩ v) P T (vs.setIfInBounds i v) := by
  have h' : w.heap[P]? = some (.cells vs T) := h
  obtain ⟨hl, hv⟩ := Array.getElem?_eq_some_iff.1 h'
  unfold Bk
  simp [World.setCell, hl, Array.getElem_modify, hv]
theorem Bk.other {w : World} {P b : Nat} {T : TypeId} {vs : Array Value} (h : Bk w P T vs) (i : Nat) (v : Value) (hb : P ≠ b) : Bk (w.setCell ⟨b, i, none⟩ v) P T vs :=
  (Below.heap_setCell _ _ _ _ hb).trans h
theorem put1_turns (w : World) (g o : Nat) (u : Value) : Turns (fun b => b = g) w (w.setCell ⟨g, o, none⟩ u) := (Turns.refl (fun b => b = g) w).setCell (p := ⟨g, o, none⟩) rfl _
abbrev put6 (w : World) (R : Nat) (v0 v1 v2 v3 v4 v5 : Value) : World :=
  (((((w.setCell ⟨R, 0, none⟩ v0).setCell ⟨R, 1, none⟩ v1).setCell ⟨R, 2, none⟩ v2).setCell ⟨R, 3, none⟩ v3).setCell ⟨R, 4, none⟩ v4).setCell ⟨R, 5, none⟩ v5
theorem Bk.put6 {w : World} {R : Nat} {T : TypeId} {a0 a1 a2 a3 a4 a5 : Value} (h : Bk w R T #[a0, a1, a2, a3, a4, a5]) (v0 v1 v2 v3 v4 v5 : Value) : Bk (put6 w R v0 v1 v2 v3 v4 v5) R T #[v0, v1, v2, v3, v4, v5] :=
  (((((h.put 0 v0).put 1 v1).put 2 v2).put 3 v3).put 4 v4).put 5 v5
theorem put6_turns (w : World) (R : Nat) (v0 v1 v2 v3 v4 v5 : Value) : Turns (fun b => b = R) w (put6 w R v0 v1 v2 v3 v4 v5) :=
  (((((put1_turns w R 0 v0).trans (put1_turns _ R 1 v1)).trans (put1_turns _ R 2 v2)).trans (put1_turns _ R 3 v3)).trans (put1_turns _ R 4 v4)).trans (put1_turns _ R 5 v5)
end Go.Proofs.Ytdcnimdhfhbdmaa

/- toModel, szModel, eqModel, markModel, heldModel. -/
namespace Go.Proofs.Ytdcnimdhfhbdmaa
open Go.RowKit
/- How much of a model there may be. -/
structure SmallM (m : Md) : Prop where
  i : m.i.length ≤ 1048576
  h : m.h.length ≤ 1048576
  r : ∀ i, (hAt m.h i).length ≤ 1048576
  t : sumL (lens m.h) m.h.length ≤ 1048576
  e : m.e.length ≤ 1048576
theorem RowI.rowF {w : World} {g : Nat} {l : List Int} (h : RowI w g l) (hl : l.length ≤ maxLen) : RowF (fun k => k = g) w (sl g l.length) l.length 1 (intCells l) := by
  refine ⟨by simp [intCells], _, _, rfl, Nat.le_refl _, hl, .inr ⟨g, rfl, rfl, h.1, fun j hj => ⟨?_, (h.2 j (by omega)).2⟩⟩⟩
  have hj' : j < l.length := by omega
  rw [(h.2 j hj').1]
  simp [intCells, intAt, hj']
theorem RowTo.rowF {w : World} {g : Nat} {l : List Ev} (h : RowTo w g l.length l l.length) (hl : l.length ≤ maxLen) : RowF (fun k => k = g) w (sl g l.length) l.length 7 (cellsL l) := by
  refine ⟨cellsL_length l, _, _, rfl, Nat.le_refl _, hl, .inr ⟨g, rfl, rfl, h.1, fun j hj => ⟨?_, (h.2.1 j hj).2⟩⟩⟩
  have hi : j / 7 < l.length := by omega
  have e := cellsL_get l _ (j % 7) hi (by omega)
  rw [show j / 7 * 7 + j % 7 = j from by omega] at e
  have hlt : j < (cellsL l).length := by rw [cellsL_length]; exact hj
  rw [List.getElem?_eq_getElem hlt] at e ⊢
  have := (h.2.2 _ hi).get e.symm
  rw [show j / 7 * 7 + j % 7 = j from by omega] at this
  exact this
end Go.Proofs.Ytdcnimdhfhbdmaa

/- szModel, eqModel, markModel, heldModel. -/
namespace Go.Proofs.Ytdcnimdhfhbdmaa
open Go.RowKit
theorem MdF.form {F : Nat → Prop} {w : World} {y : Value} {m : Md} (h : MdF F w y m) : ∃ ai ci ah ch ae ce, y = .agg #[.int .i64 m.n, .int .i64 m.s, .slice ai m.i.length ci, .slice ah m.h.length ch, .slice ae m.e.length ce, .int .i64 m.z] := by
  obtain ⟨A, B, C, vi, vh, vs, rfl, ⟨_, a1, c1, rfl, _⟩, ⟨U, F0, G, ⟨_, a2, c2, rfl, _⟩, _⟩, ⟨_, a3, c3, rfl, _⟩, _⟩ := h
  exact ⟨a1, c1, a2, c2, a3, c3, rfl⟩
/- The marks that heldModel finds again. -/
def HeldM (F : Nat → Prop) (w : World) (x : Value) (m : Md) : Prop :=
  ∃ (A B C : Nat → Prop) (vi vh vs : Value) (U : Nat → Value), x = .agg #[.int .i64 m.n, .int .i64 m.s, vi, vh, vs, .int .i64 m.z] ∧ RowF A w vi m.i.length 1 (mkCells 1 (m.i.length * 1)) ∧
    RowsF B w vh m.h.length U (lens m.h) (mkRows (1 + (m.i.length : Int)) (lens m.h)) ∧ RowF C w vs m.e.length 7 (mkCells (1 + (m.i.length : Int) + 4 * (sumL (lens m.h) m.h.length : Int)) (m.e.length * 7)) ∧
    (∀ k, A k → F k ∧ ¬ B k ∧ ¬ C k) ∧ (∀ k, B k → F k ∧ ¬ C k) ∧ ∀ k, C k → F k
theorem HeldM.turns {F S : Nat → Prop} {w w' : World} {x : Value} {m : Md} (h : HeldM F w x m) (ht : Turns S w w') (hS : ∀ k, F k → ¬ S k) : HeldM F w' x m := by
  obtain ⟨A, B, C, vi, vh, vs, U, rfl, h1, h2, h3, h4, h5, h6⟩ := h
  exact ⟨A, B, C, vi, vh, vs, U, rfl, h1.turns ht (fun k hk => hS k (h4 k hk).1), h2.turns ht (fun k hk => hS k (h5 k hk).1), h3.turns ht (fun k hk => hS k (h6 k hk)), h4, h5, h6⟩
theorem HeldM.below {F : Nat → Prop} {w w' : World} {x : Value} {m : Md} (h : HeldM F w x m) (hb : Below w.heap.size w w') : HeldM F w' x m :=
  h.turns (S := fun _ => False) (Turns.of_below hb) (fun _ _ => id)
def markNo (m : Md) : Int := 1 + (m.i.length : Int) + 4 * (sumL (lens m.h) m.h.length : Int) + 7 * (m.e.length : Int)
theorem markNo_pos (m : Md) : 1 ≤ markNo m := by unfold markNo; omega

end Go.Proofs.Ytdcnimdhfhbdmaa

/- Emits as plain values, and as cells. -/
namespace Go.Proofs.Ytdcnimdhfhbdmaa
open Go.RowKit
structure Em where
  t : Int
  l : Int
  v : Int
def xAt (l : List Em) (i : Nat) : Em := l.getD i ⟨0, 0, 0⟩
def Em.cs (e : Em) : List Value := [.int .i64 e.t, .int .i64 e.l, .int .i64 e.v]
abbrev Em.val (e : Em) : Value := .agg #[.int .i64 e.t, .int .i64 e.l, .int .i64 e.v]
def cellsX : List Em → List Value
  | [] => []
  | e :: l => e.cs ++ cellsX l
theorem cellsX_length : ∀ l : List Em, (cellsX l).length = l.length * 3
  | [] => rfl
  | e :: l => by simp [cellsX, cellsX_length l, Em.cs]; omega
theorem cellsX_append : ∀ l l' : List Em, cellsX (l ++ l') = cellsX l ++ cellsX l'
  | [], _ => rfl
  | e :: l, l' => by simp [cellsX, cellsX_append l l']
theorem xAt_cons_succ (e : Em) (l : List Em) (i : Nat) : xAt (e :: l) (i + 1) = xAt l i := by simp [xAt]
theorem cellsX_get : ∀ (l : List Em) (i r : Nat), i < l.length → r < 3 → (cellsX l)[i * 3 + r]? = (xAt l i).cs[r]?
  | [], _, _, h, _ => by simp at h
  | e :: l, 0, r, _, hr => by
    have : r < e.cs.length := by simpa [Em.cs] using hr
    simp only [cellsX, Nat.zero_mul, Nat.zero_add]
    rw [List.getElem?_append_left this]
    simp [xAt]
  | e :: l, i + 1, r, h, hr => by
    have h1 := cellsX_get l i r (by simpa using h) hr
    have : e.cs.length ≤ (i + 1) * 3 + r := by simp [Em.cs]; omega
    simp only [cellsX]
    rw [List.getElem?_append_right this, xAt_cons_succ, ← h1]
    congr 1
    simp [Em.cs]; omega
theorem cellsX_one (l : List Em) : ∀ u ∈ cellsX l, u.oneCell' = true := by
  induction l with
  | nil => intro u h; cases h
  | cons e l ih =>
    intro u h
    rcases List.mem_append.1 h with h | h
    · simp [Em.cs] at h
      rcases h with rfl | rfl | rfl <;> rfl
    · exact ih u h
end Go.Proofs.Ytdcnimdhfhbdmaa

/- The specification's l1find. -/
namespace Go.Proofs.Ytdcnimdhfhbdmaa
open Go.RowKit

/- The first place of a tag. -/
def FirstAt (l : List Ev) (tag : Int) (i : Nat) : Prop := i < l.length ∧ (evAt l i).g = tag ∧ ∀ j, j < i → (evAt l j).g ≠ tag
def NoTag (l : List Ev) (tag : Int) : Prop := ∀ j, j < l.length → (evAt l j).g ≠ tag
theorem firstAt_or (l : List Ev) (tag : Int) : (∃ i, FirstAt l tag i) ∨ NoTag l tag := by
  have key : ∀ n, n ≤ l.length → (∃ i, FirstAt l tag i) ∨ ∀ j, j < n → (evAt l j).g ≠ tag := by
    intro n
    induction n with
    | zero => intro _; exact .inr (fun j hj => by omega)
    | succ n ih =>
      intro hn
      rcases ih (by omega) with h | h
      · exact .inl h
      · by_cases e : (evAt l n).g = tag
        · exact .inl ⟨n, by omega, e, h⟩
        · exact .inr (fun j hj => by
            by_cases ej : j = n
            · subst ej; exact e
            · exact h j (by omega))
  exact key l.length (Nat.le_refl _)

theorem step_append_own {P : Program} {ops : Array Oper} {o : Oper} {a : Act} {w : World} {K : Act → World → Prop} {Q : Exit → Act → World → Prop} {E : Prop}
    (hg : o.guard = none) (s x : Operand) (t : TypeId) (hop : o.op = Op.call { callee := Callee.builtin Builtin.append, args := #[s, x], argTypes := #[t, t] })
    (base : Nat) (e : TypeId) (i : TypeInfo) (z : Value) (size bytes : Nat) (h1 : P.underlying t = some (.slice e)) (h2 : P.info? e = some i) (h3 : i.zero = some z) (h4 : i.size = size) (h5 : i.bytes = bytes) (h6 : z.cells.size = size) (h7 : 0 < size)
    (v : Value) (n : Nat) (xs : List Value) (hs : a.eval s = v) (hown : w.ownsRow base e size v n xs)
    (ad : Addr) (m c : Nat) (news : List Value) (hx : a.eval x = .slice (some ad) m c) (hn : news.length = m * size) (hc : ∀ j u, news[j]? = some u → w.cell? (ad.add j) = some u) (h1c : ∀ u ∈ news, u.oneCell' = true)
    (b1 : n + m ≤ maxLen) (b2 : (n + m) * bytes ≤ 140737488355328) (hbase : base ≤ w.heap.size)
    (hK : ∀ v' w', w'.ownsRow base e size v' (n + m) (xs ++ news) → w.grownBy w' v.ownBlock → K (a.put o.dst v') w') :
    if Region.wanted o (yielded ops a.tmps) = true then Oper.wp P o a w K Q else E := by
  have hw : Region.wanted o (yielded ops a.tmps) = true := by simp [Region.wanted, hg]
  rw [if_pos hw]
  exact wp_append_own w s x t hop base e i z size bytes h1 h2 h3 h4 h5 h6 h7 v n xs hs hown ad m c news hx hn hc h1c b1 b2 hbase (fun v' w' r1 r2 _ => hK v' w' r1 r2)

theorem EvsAt.take {w : World} {b off : Nat} {l : List Ev} (h : EvsAt w b off l) (k : Nat) : EvsAt w b off (l.take k) :=
  ⟨h.1, fun i hi => by
    have h1 : i < k ∧ i < l.length := by simp at hi; omega
    rw [evAt_take _ _ _ h1.1]; exact h.2 i h1.2⟩
theorem EvsAt.drop {w : World} {b off : Nat} {l : List Ev} (h : EvsAt w b off l) (k : Nat) : EvsAt w b (off + k * 7) (l.drop k) :=
  ⟨h.1, fun i hi => by
    have h1 : k + i < l.length := by simp at hi; omega
    rw [evAt_drop, show off + k * 7 + i * 7 = off + (k + i) * 7 from by omega]; exact h.2 _ h1⟩

theorem row_ge {w : World} {B : Nat} {e : TypeId} {size n : Nat} {v : Value} {xs : List Value} (h : w.ownsRow B e size v n xs) {r : Nat} (hr : v.ownBlock = some r) : B ≤ r := by
  obtain ⟨_, ⟨rfl, _⟩ | ⟨g, cap, cur, rfl, hg, _⟩⟩ := h
  · cases hr
  · cases hr; exact hg
end Go.Proofs.Ytdcnimdhfhbdmaa

/- A row of events of one's own, whose places are written; what turns beside it. -/
namespace Go.Proofs.Ytdcnimdhfhbdmaa
open Go.RowKit

def Row (w : World) (B g cap : Nat) (l : List Ev) : Prop := w.ownsRow B 40 7 (.slice (some ⟨g, 0, none⟩) l.length cap) l.length (cellsL l)
theorem cellsL_set : ∀ (l : List Ev) (i : Nat) (e : Ev), i < l.length →
    (((((((cellsL l).set (i * 7) (.int .i64 e.t)).set (i * 7 + 1) (.int .i64 e.s)).set (i * 7 + 2) (.int .i64 e.q)).set (i * 7 + 3) (.int .i64 e.d)).set (i * 7 + 4) (.int .i64 e.k)).set (i * 7 + 5) (.int .i64 e.v)).set (i * 7 + 6) (.int .i64 e.g) = cellsL (l.set i e)
  | [], _, _, h => by simp at h
  | a :: l, 0, e, _ => by simp [cellsL, Ev.cs]
  | a :: l, i + 1, e, h => by
    have ih := cellsL_set l i e (by simpa using h)
    have hk0 : (i + 1) * 7 = i * 7 + 1 + 1 + 1 + 1 + 1 + 1 + 1 := by omega
    simp only [cellsL, Ev.cs, List.cons_append, List.nil_append, List.set_cons_succ, hk0, ih]
theorem Row.put {w : World} {B g cap : Nat} {l : List Ev} (h : Row w B g cap l) {i : Nat} (hi : i < l.length) (e : Ev) : Row (put7 w g (i * 7) e) B g cap (l.set i e) := by
  have h0 := (World.ownsRow.stored h (i * 7) (.int .i64 e.t)).1
  have h1 := (World.ownsRow.stored h0 (i * 7 + 1) (.int .i64 e.s)).1
  have h2 := (World.ownsRow.stored h1 (i * 7 + 2) (.int .i64 e.q)).1
  have h3 := (World.ownsRow.stored h2 (i * 7 + 3) (.int .i64 e.d)).1
  have h4 := (World.ownsRow.stored h3 (i * 7 + 4) (.int .i64 e.k)).1
  have h5 := (World.ownsRow.stored h4 (i * 7 + 5) (.int .i64 e.v)).1
  have h6 := (World.ownsRow.stored h5 (i * 7 + 6) (.int .i64 e.g)).1
  unfold Row
  rw [List.length_set, ← cellsL_set l i e hi]
  exact h6
theorem Row.lt {w : World} {B g cap : Nat} {l : List Ev} (h : Row w B g cap l) : B ≤ g ∧ g < w.heap.size := World.ownsRow.lt h g rfl
theorem Row.caps {w : World} {B g cap : Nat} {l : List Ev} (h : Row w B g cap l) : l.length ≤ cap ∧ cap ≤ maxLen := by
  obtain ⟨_, ⟨h, _⟩ | ⟨g', cap', cur, e, _, _, h1, h2, _⟩⟩ := h
  · cases h
  · cases e; exact ⟨h1, h2⟩
theorem Row.ev {w : World} {B g cap : Nat} {l : List Ev} (h : Row w B g cap l) {i : Nat} (hi : i < l.length) : Ev.In w g (i * 7) (evAt l i) := by
  have hget : ∀ r, r < 7 → w.cell? ⟨g, i * 7 + r, none⟩ = (evAt l i).cs[r]? := fun r hr => by
    rw [World.ownsRow.cellAt h (i * 7 + r) (by omega), cellsL_get l i r hi hr]
  exact ⟨hget 0 (by omega), hget 1 (by omega), hget 2 (by omega), hget 3 (by omega), hget 4 (by omega), hget 5 (by omega), hget 6 (by omega)⟩
theorem Row.frozen {w : World} {B g cap : Nat} {l : List Ev} (h : Row w B g cap l) (j : Nat) : w.frozen? ⟨g, j, none⟩ = false := World.ownsRow.frozenAt h j
theorem Row.evs {w : World} {B g cap : Nat} {l : List Ev} (h : Row w B g cap l) : EvsAt w g 0 l := ⟨h.lt.2, fun i hi => by rw [Nat.zero_add]; exact h.ev hi⟩
theorem Row.same {w w' : World} {B g cap : Nat} {l : List Ev} (h : Row w B g cap l) (hb : w'.heap[g]? = w.heap[g]?) : Row w' B g cap l := by
  obtain ⟨h0, ⟨h, _⟩ | ⟨g', cap', cur, e, hg, hc, h1, h2, h3, h4⟩⟩ := h
  · cases h
  · cases e; exact ⟨h0, .inr ⟨g, cap, cur, rfl, hg, hb.trans hc, h1, h2, h3, h4⟩⟩
theorem Row.below {w w' : World} {B B' g cap : Nat} {l : List Ev} (h : Row w B g cap l) (hb : Below B' w w') (hB : g < B') : Row w' B g cap l := h.same (hb.block g hB)
theorem Row.base {w : World} {B B' g cap : Nat} {l : List Ev} (h : Row w B g cap l) (hB : B' ≤ g) : Row w B' g cap l := by
  obtain ⟨h0, ⟨h, _⟩ | ⟨g', cap', cur, e, hg, hc, h1, h2, h3, h4⟩⟩ := h
  · cases h
  · cases e; exact ⟨h0, .inr ⟨g, cap, cur, rfl, hB, hc, h1, h2, h3, h4⟩⟩
theorem Row.own {w : World} {B g cap : Nat} {l : List Ev} (h : Row w B g cap l) : OwnEvs B w (.slice (some ⟨g, 0, none⟩) l.length cap) l := OwnEvs.of_row h
theorem Row.drew {w : World} {B g cap : Nat} {l : List Ev} (h : Row w B g cap l) : Row w.drew B g cap l := World.ownsRow.drew h
theorem Row.pop {w : World} {B g cap : Nat} {l : List Ev} {e : Ev} (h : Row w B g cap (l ++ [e])) : Row w B g cap l := by
  unfold Row at h
  rw [List.length_append, List.length_singleton, cellsL_append] at h
  exact ownsRow_pop (cellsL_length l) h

/- All blocks but those of S stay as they were. -/
theorem Turns.put {S : Nat → Prop} {a w : World} (h : Turns S a w) {g : Nat} (hg : S g) (o : Nat) (e : Ev) : Turns S a (put7 w g o e) :=
  ((((((h.setCell (p := ⟨g, o, none⟩) hg _).setCell (p := ⟨g, o + 1, none⟩) hg _).setCell (p := ⟨g, o + 2, none⟩) hg _).setCell (p := ⟨g, o + 3, none⟩) hg _).setCell (p := ⟨g, o + 4, none⟩) hg _).setCell (p := ⟨g, o + 5, none⟩) hg _).setCell (p := ⟨g, o + 6, none⟩) hg _
theorem Turns.row {S : Nat → Prop} {w w' : World} (h : Turns S w w') {B g cap : Nat} {l : List Ev} (hr : Row w B g cap l) (hg : ¬ S g) : Row w' B g cap l := hr.same (h.block g hr.lt.2 hg)
end Go.Proofs.Ytdcnimdhfhbdmaa

/- Lists that are read, nil or not; the copies of both sides, as rows of one's own. -/
namespace Go.Proofs.Ytdcnimdhfhbdmaa
open Go.RowKit
def SrcE (w : World) (x : Value) (l : List Ev) : Prop := (x = .slice none 0 0 ∧ l = []) ∨ ∃ b off cap, x = .slice (some ⟨b, off, none⟩) l.length cap ∧ EvsAt w b off l
def OwnR (B : Nat) (w : World) (x : Value) (l : List Ev) : Prop := w.ownsRow B 40 7 x l.length (cellsL l)
theorem SrcE.below {w w' : World} {x : Value} {l : List Ev} (h : SrcE w x l) (hb : Below w.heap.size w w') : SrcE w' x l :=
  h.imp id (fun ⟨b, off, cap, e, h⟩ => ⟨b, off, cap, e, h.below hb h.1⟩)
theorem OwnR.src {B : Nat} {w : World} {x : Value} {l : List Ev} (h : OwnR B w x l) : SrcE w x l := by
  have h' := h
  obtain ⟨_, ⟨e, h0⟩ | ⟨g, cap, cur, rfl, h1⟩⟩ := h
  · exact .inl ⟨e, List.eq_nil_of_length_eq_zero h0⟩
  · exact .inr ⟨g, 0, cap, rfl, Row.evs h'⟩
theorem OwnR.own {B : Nat} {w : World} {x : Value} {l : List Ev} (h : OwnR B w x l) : OwnEvs B w x l := OwnEvs.of_row h
theorem OwnR.rowed {B : Nat} {w : World} {x : Value} {l : List Ev} (h : OwnR B w x l) {n : Nat} (hl : l.length = n + 1) : ∃ g cap, x = .slice (some ⟨g, 0, none⟩) (n + 1) cap ∧ Row w B g cap l := by
  have h' := h
  obtain ⟨_, ⟨e, h0⟩ | ⟨g, cap, cur, rfl, h1⟩⟩ := h
  · omega
  · exact ⟨g, cap, by rw [hl], h'⟩
theorem OwnR.below {B : Nat} {w w' : World} {x : Value} {l : List Ev} (h : OwnR B w x l) (hb : Below w.heap.size w w') : OwnR B w' x l := by
  obtain ⟨h0, ⟨e, h1⟩ | ⟨g, cap, cur, e, hg, hc, h1⟩⟩ := h
  · exact ⟨h0, .inl ⟨e, h1⟩⟩
  · exact ⟨h0, .inr ⟨g, cap, cur, e, hg, (hb.block g (Array.getElem?_eq_some_iff.1 hc).1).trans hc, h1⟩⟩
theorem OwnR.mono {B B' : Nat} {w : World} {x : Value} {l : List Ev} (h : OwnR B w x l) (hB : B' ≤ B) : OwnR B' w x l := by
  obtain ⟨h0, ⟨e, h1⟩ | ⟨g, cap, cur, e, hg, h1⟩⟩ := h
  · exact ⟨h0, .inl ⟨e, h1⟩⟩
  · exact ⟨h0, .inr ⟨g, cap, cur, e, Nat.le_trans hB hg, h1⟩⟩
theorem OwnR.nil (B : Nat) (w : World) : OwnR B w (.slice none 0 0) [] := World.ownsRow_nil w B _ 7
theorem OwnR.evs {B : Nat} {w : World} {x : Value} {l : List Ev} (h : OwnR B w x l) : IsEvs w x l := h.own.isEvs
theorem RowTo.src {w : World} {g : Nat} {l : List Ev} (h : RowTo w g l.length l l.length) : SrcE w (.slice (some ⟨g, 0, none⟩) l.length l.length) l := .inr ⟨g, 0, _, rfl, h.evs⟩

set_option maxHeartbeats 1000000 in
theorem copy_row (x : Value) (l : List Ev) (w : World) (hl : l.length ≤ 1048577) (hI : SrcE w x l) :
    Calls Try.prog 71 #[x] w fun e w' => ∃ y, e = .returned y ∧ OwnR w.heap.size w' y l ∧ Below w.heap.size w w' := by
  obtain ⟨i0, hi, hz0, hz1, hz2⟩ := info_parts info25
  rcases hI with ⟨rfl, rfl⟩ | ⟨b, off, cap, rfl, hI⟩
  · go_enter Try.func71, Try.ntmps71
    go_wp2_with (at_builtin; refine wpList_append_own_none rfl _ _ 34 rfl w.heap.size 40 i0 7 Try.underlying34 hi (.slice none 0 0) 0 [] rfl (World.ownsRow_nil w _ 40 7) rfl ?_)
    go_ret
    exact ⟨_, rfl, OwnR.nil _ _, Below.refl _ _⟩
  · have HI : Hid (EvsAt w b off l) := hI
    clear hI
    go_enter Try.func71, Try.ntmps71
    go_wp2_with (at_builtin; refine wpList_append_own _ rfl _ _ 34 rfl w.heap.size 40 i0 _ 7 56 Try.underlying34 hi hz0 hz1 hz2 rfl (by decide) (.slice none 0 0) 0 [] rfl (World.ownsRow_nil w _ 40 7) ⟨b, off, none⟩ l.length cap (cellsL l) rfl (cellsL_length l) HI.out.cells (cellsL_one l) (by unfold maxLen; omega) (by omega) (Nat.le_refl _) ?_; intro v' w1 hown hgrow hnil)
    go_ret
    exact ⟨_, rfl, by unfold OwnR; simpa using hown, (Below.refl _ w).grown hgrow (Nat.le_refl _) (fun k e => by cases e)⟩

set_option maxHeartbeats 1000000 in
theorem own_row (x : Value) (l : List Ev) (w : World) (hl : l.length ≤ 1048577) (hI : SrcE w x l) :
    Calls Try.prog 50 #[x] w fun e w' => ∃ y, e = .returned y ∧ OwnR w.heap.size w' y l ∧ Below w.heap.size w w' := by
  obtain ⟨i0, hi, hz0, hz1, hz2⟩ := info_parts info25
  rcases hI with ⟨rfl, rfl⟩ | ⟨b, off, cap, rfl, hI⟩
  · go_enter Try.func50, Try.ntmps50
    go_wp2_with (at_builtin; refine wpList_append_own_none rfl _ _ 34 rfl w.heap.size 40 i0 7 Try.underlying34 hi (.slice (some ⟨w.heap.size, 0, none⟩) 0 0) 0 [] rfl (row_empty w) rfl ?_)
    go_ret
    exact ⟨_, rfl, row_empty w, (Below.refl _ w).alloc (Nat.le_refl _) _⟩
  · have HI : Hid (EvsAt w b off l) := hI
    clear hI
    go_enter Try.func50, Try.ntmps50
    go_wp2_with (at_builtin; refine wpList_append_own _ rfl _ _ 34 rfl w.heap.size 40 i0 _ 7 56 Try.underlying34 hi hz0 hz1 hz2 rfl (by decide) (.slice (some ⟨w.heap.size, 0, none⟩) 0 0) 0 [] rfl (row_empty w) ⟨b, off, none⟩ l.length cap (cellsL l) rfl (cellsL_length l) (HI.out.below ((Below.refl _ w).alloc (Nat.le_refl _) _) HI.out.1).cells (cellsL_one l) (by unfold maxLen; omega) (by omega) (by simp) ?_; intro v' w1 hown hgrow hnil)
    go_ret
    exact ⟨_, rfl, by unfold OwnR; simpa using hown, ((Below.refl _ w).alloc (Nat.le_refl _) _).grown hgrow (by simp) (fun k e => by cases e; exact Nat.le_refl _)⟩

end Go.Proofs.Ytdcnimdhfhbdmaa

/- A region that draws its order, whose operations only read and whose callees lay blocks of their own, is walked once, in the order of the text. -/
namespace Go.Proofs.Ytdcnimdhfhbdmaa
open Go.RowKit
/- A world in which all that W had lies as it lay. -/
structure Beyond (W : World) where
  w : World
  h : Below W.heap.size W w
theorem Beyond.cell {W : World} (p : Beyond W) {b o : Nat} {v : Value} (hb : b < W.heap.size) (h : W.cell? ⟨b, o, none⟩ = some v) : p.w.cell? ⟨b, o, none⟩ = some v := (p.h.cell (p := ⟨b, o, none⟩) hb).trans h
theorem Beyond.of {P : Program} {f : FuncId} {args : Array Value} {W : World} {p : Beyond W} {v : Value} (h : Calls P f args p.w fun e w' => e = .returned v ∧ Below p.w.heap.size p.w w') :
    Calls P f args p.w fun e w'' => e = .returned v ∧ ∃ p' : Beyond W, w'' = p'.w :=
  h.mono fun _ w'' ⟨he, hb⟩ => ⟨he, ⟨w'', p.h.trans (hb.mono p.h.size)⟩, rfl⟩
theorem wp_region_beyond {P : Program} {id : Nat} {Q : Exit → Act → World → Prop} {a : Act} {W : World} {l : List Oper} (hm : P.follows .mixedOrders = true) (hB : Region.lexB .any l.toArray = true)
    (h : wpQuiet P l.toArray (fun w' => ∃ p : Beyond W, w' = p.w) (fun a' => ∀ w', (∃ p : Beyond W, w' = p.w) → Q .normal a' w') l a) : (Code.region id l.toArray true).wp P Q a W :=
  wp_region_quiet (C := fun w' => ∃ p : Beyond W, w' = p.w) hm hB ⟨⟨_, (Below.refl _ W).drew⟩, rfl⟩ (by simpa using h)
/- The seven cells of an event, in every world beyond. -/
theorem EvAt.beyond {W : World} {b o : Nat} {t s q d k v g : Int} (h : EvAt W b o t s q d k v g) (hb : b < W.heap.size) :
    (∀ p : Beyond W, p.w.cell? ⟨b, o, none⟩ = some (.int .i64 t)) ∧ (∀ p : Beyond W, p.w.cell? ⟨b, o + 1, none⟩ = some (.int .i64 s)) ∧ (∀ p : Beyond W, p.w.cell? ⟨b, o + 2, none⟩ = some (.int .i64 q)) ∧ (∀ p : Beyond W, p.w.cell? ⟨b, o + 3, none⟩ = some (.int .i64 d)) ∧
    (∀ p : Beyond W, p.w.cell? ⟨b, o + 4, none⟩ = some (.int .i64 k)) ∧ (∀ p : Beyond W, p.w.cell? ⟨b, o + 5, none⟩ = some (.int .i64 v)) ∧ (∀ p : Beyond W, p.w.cell? ⟨b, o + 6, none⟩ = some (.int .i64 g)) :=
  ⟨fun p => p.cell hb h.f0, fun p => p.cell hb h.f1, fun p => p.cell hb h.f2, fun p => p.cell hb h.f3, fun p => p.cell hb h.f4, fun p => p.cell hb h.f5, fun p => p.cell hb h.f6⟩
end Go.Proofs.Ytdcnimdhfhbdmaa

/- States: what they hold, how they come in, are held against each other, marked, and found again. -/
namespace Go.Proofs.Ytdcnimdhfhbdmaa
open Go.RowKit
structure St where
  r : List Int
  q : Int
  d : Int
def IsS (w : World) (x : Value) (s : St) : Prop := ∃ vr, x = .agg #[vr, .int .i64 s.q, .int .i64 s.d] ∧ IsI w vr s.r
theorem IsS.below {w w' : World} {x : Value} {s : St} (h : IsS w x s) (hb : Below w.heap.size w w') : IsS w' x s := by
  obtain ⟨vr, rfl, h⟩ := h
  exact ⟨vr, rfl, h.below hb⟩
/- A state whose registers lie in a block of F. -/
def StF (F : Nat → Prop) (w : World) (x : Value) (s : St) : Prop := ∃ vr, x = .agg #[vr, .int .i64 s.q, .int .i64 s.d] ∧ RowF F w vr s.r.length 1 (intCells s.r)
theorem StF.isS {F : Nat → Prop} {w : World} {x : Value} {s : St} (h : StF F w x s) : IsS w x s := by
  obtain ⟨vr, rfl, h⟩ := h
  exact ⟨vr, rfl, h.isI⟩
theorem StF.turns {F S : Nat → Prop} {w w' : World} {x : Value} {s : St} (h : StF F w x s) (ht : Turns S w w') (hS : ∀ k, F k → ¬ S k) : StF F w' x s := by
  obtain ⟨vr, rfl, h⟩ := h
  exact ⟨vr, rfl, h.turns ht hS⟩
theorem StF.below {F : Nat → Prop} {w w' : World} {x : Value} {s : St} (h : StF F w x s) (hb : Below w.heap.size w w') : StF F w' x s :=
  h.turns (S := fun _ => False) (Turns.of_below hb) (fun _ _ => id)
theorem StF.mono {F F' : Nat → Prop} {w : World} {x : Value} {s : St} (h : StF F w x s) (hF : ∀ k, F k → F' k) : StF F' w x s := by
  obtain ⟨vr, rfl, h⟩ := h
  exact ⟨vr, rfl, h.mono hF⟩
theorem StF.form {F : Nat → Prop} {w : World} {x : Value} {s : St} (h : StF F w x s) : ∃ a c, x = .agg #[.slice a s.r.length c, .int .i64 s.q, .int .i64 s.d] := by
  obtain ⟨vr, rfl, _, a, c, rfl, _⟩ := h
  exact ⟨a, c, rfl⟩
/- The state whose registers hold the marks from z on. -/
def HeldS (F : Nat → Prop) (w : World) (x : Value) (s : St) (z : Int) : Prop := ∃ vr, x = .agg #[vr, .int .i64 s.q, .int .i64 s.d] ∧ RowF F w vr s.r.length 1 (mkCells z (s.r.length * 1))
theorem HeldS.turns {F S : Nat → Prop} {w w' : World} {x : Value} {s : St} {z : Int} (h : HeldS F w x s z) (ht : Turns S w w') (hS : ∀ k, F k → ¬ S k) : HeldS F w' x s z := by
  obtain ⟨vr, rfl, h⟩ := h
  exact ⟨vr, rfl, h.turns ht hS⟩
theorem HeldS.below {F : Nat → Prop} {w w' : World} {x : Value} {s : St} {z : Int} (h : HeldS F w x s z) (hb : Below w.heap.size w w') : HeldS F w' x s z :=
  h.turns (S := fun _ => False) (Turns.of_below hb) (fun _ _ => id)
abbrev put3 (w : World) (R : Nat) (v0 v1 v2 : Value) : World := ((w.setCell ⟨R, 0, none⟩ v0).setCell ⟨R, 1, none⟩ v1).setCell ⟨R, 2, none⟩ v2
theorem Bk.put3 {w : World} {R : Nat} {T : TypeId} {a0 a1 a2 : Value} (h : Bk w R T #[a0, a1, a2]) (v0 v1 v2 : Value) : Bk (put3 w R v0 v1 v2) R T #[v0, v1, v2] :=
  ((h.put 0 v0).put 1 v1).put 2 v2
theorem put3_turns (w : World) (R : Nat) (v0 v1 v2 : Value) : Turns (fun b => b = R) w (put3 w R v0 v1 v2) :=
  ((put1_turns w R 0 v0).trans (put1_turns _ R 1 v1)).trans (put1_turns _ R 2 v2)
set_option maxHeartbeats 2000000 in
theorem szState_any (x : Value) (s : St) (left : Int) (w : World) (h0 : 0 ≤ left) (h1 : left ≤ 1048576) (h : IsS w x s) :
    Calls Try.prog 21 #[x, .int .i64 left] w fun e w' => (∃ r, e = .returned (.int .i64 r) ∧ (r = -1 ∨ (0 ≤ r ∧ r ≤ 1048576 ∧ s.r.length ≤ 1048576))) ∧ Below w.heap.size w w' := by
  obtain ⟨vr, rfl, a1, c1, rfl, hi1, hi2, _⟩ := h
  obtain ⟨l, q, d⟩ := s
  have HI : Hid (l.length ≤ maxLen) := Nat.le_trans hi1 hi2
  clear hi1 hi2
  obtain ⟨W0, hW0⟩ : ∃ W0, w.alloc (.cells #[.slice a1 l.length c1, .int .i64 q, .int .i64 d] 24) = W0 := ⟨_, rfl⟩
  have HB0 : Hid (Below w.heap.size w W0) := by rw [← hW0]; exact (Below.refl _ w).alloc (Nat.le_refl _) _
  have HP0 : Bk W0 w.heap.size 24 #[.slice a1 l.length c1, .int .i64 q, .int .i64 d] := by rw [← hW0]; exact Bk.new w _ _
  have p0 := HP0.cell (i := 0) rfl
  clear HP0
  go_enter Try.func21, Try.ntmps21
  go_wp2_with fail
  refine (szI_any _ _ _ _ _ HI.out h0 h1).mono ?_
  rintro e w' ⟨rfl, hw⟩
  have hw' := hw.symm
  clear hw
  subst hw'
  clear hW0
  generalize hq : szN l.length left = t
  have ht : t = -1 ∨ (0 ≤ t ∧ t ≤ 1048576 ∧ l.length ≤ 1048576) := by
    unfold szN at hq
    split at hq <;> omega
  clear hq
  rcases ht with rfl | ⟨t0, t1, t3⟩
  · go_wp2
    go_ret
    exact ⟨⟨_, rfl, .inl rfl⟩, HB0.out⟩
  · have t2 : ¬ (t < 0) := by omega
    go_wp2
    go_ret
    exact ⟨⟨_, rfl, .inr ⟨t0, t1, t3⟩⟩, HB0.out⟩
set_option maxHeartbeats 2000000 in
theorem eqState_same (x y : Value) (s : St) (w : World) (hs : s.r.length ≤ 1048576) (hx : IsS w x s) (hy : IsS w y s) :
    Calls Try.prog 40 #[x, y] w fun e w' => e = .returned (.bool true) ∧ Below w.heap.size w w' := by
  obtain ⟨vr, rfl, h1⟩ := hx
  obtain ⟨ur, rfl, k1⟩ := hy
  obtain ⟨l, q, d⟩ := s
  have HI : Hid (IsI w vr l ∧ IsI w ur l) := ⟨h1, k1⟩
  have HS : Hid (l.length ≤ 4611686018427387904) := (by have : l.length ≤ 1048576 := hs; omega : l.length ≤ 4611686018427387904)
  clear h1 k1 hs
  obtain ⟨W0, hW0⟩ : ∃ W0, (w.alloc (.cells #[vr, .int .i64 q, .int .i64 d] 32)).alloc (.cells #[ur, .int .i64 q, .int .i64 d] 32) = W0 := ⟨_, rfl⟩
  have HB0 : Hid (Below w.heap.size w W0) := by rw [← hW0]; exact ((Below.refl _ w).alloc (Nat.le_refl _) _).alloc (by simp) _
  have HP0 : Hid (Bk W0 w.heap.size 32 #[vr, .int .i64 q, .int .i64 d]) := by rw [← hW0]; exact (Bk.new w _ _).alloc _
  have HQ0 : Hid (Bk W0 (w.heap.size + 1) 32 #[ur, .int .i64 q, .int .i64 d]) := by rw [← hW0]; exact Bk.newAt (by simp) _ _
  have p0 := HP0.out.cell (i := 0) rfl
  have q0 := HQ0.out.cell (i := 0) rfl
  go_enter Try.func40, Try.ntmps40
  go_wp2_with fail
  clear p0 q0 hW0
  refine (eqI_same _ _ l _ HS.out (HI.out.1.below HB0.out) (HI.out.2.below HB0.out)).mono ?_
  rintro e w1 ⟨rfl, hb⟩
  have HB1 : Hid (Below w.heap.size w w1) := HB0.out.trans (hb.mono HB0.out.size)
  have p1 := (HP0.out.below hb).cell (i := 1) rfl
  have q1 := (HQ0.out.below hb).cell (i := 1) rfl
  have p2 := (HP0.out.below hb).cell (i := 2) rfl
  have q2 := (HQ0.out.below hb).cell (i := 2) rfl
  clear hb HB0 HP0 HQ0
  go_wp2
  go_ret
  exact ⟨rfl, HB1.out⟩
set_option maxHeartbeats 2000000 in
theorem markState_any {F : Nat → Prop} {x : Value} {s : St} {w : World} (z : Int) (hs : s.r.length ≤ 1048577) (hz0 : 0 ≤ z) (hz1 : z ≤ 1073741824) (h : StF F w x s) :
    Calls Try.prog 43 #[x, .int .i64 z] w fun e w' => e = .returned (.int .i64 (z + (s.r.length : Int))) ∧ HeldS F w' x s z ∧ Turns F w w' := by
  obtain ⟨vr, rfl, h1⟩ := h
  obtain ⟨l, q, d⟩ := s
  have HI : Hid (RowF F w vr l.length 1 (intCells l)) := h1
  have hl : l.length ≤ 1048577 := hs
  clear h1 hs
  obtain ⟨W0, hW0⟩ : ∃ W0, w.alloc (.cells #[vr, .int .i64 q, .int .i64 d] 32) = W0 := ⟨_, rfl⟩
  have HB0 : Hid (Below w.heap.size w W0) := by rw [← hW0]; exact (Below.refl _ w).alloc (Nat.le_refl _) _
  have HP0 : Hid (Bk W0 w.heap.size 32 #[vr, .int .i64 q, .int .i64 d]) := by rw [← hW0]; exact Bk.new w _ _
  have p0 := HP0.out.cell (i := 0) rfl
  go_enter Try.func43, Try.ntmps43
  go_wp2_with fail
  clear p0 hW0
  refine (markIF (F := F) z hl hz0 hz1 (HI.out.below HB0.out)).mono ?_
  rintro e w1 ⟨rfl, hr, ht⟩
  go_wp2
  go_ret
  exact ⟨rfl, ⟨vr, rfl, hr⟩, (Turns.of_below HB0.out).trans ht⟩
set_option maxHeartbeats 2000000 in
theorem heldState_any {F : Nat → Prop} {x : Value} {s : St} {w : World} (z : Int) (hs : s.r.length ≤ 1048577) (hz0 : 0 ≤ z) (hz1 : z ≤ 1073741824) (h : HeldS F w x s z) :
    Calls Try.prog 46 #[x, .int .i64 z] w fun e w' => e = .returned (.int .i64 (z + (s.r.length : Int))) ∧ Below w.heap.size w w' := by
  obtain ⟨vr, rfl, h1⟩ := h
  obtain ⟨l, q, d⟩ := s
  have HI : Hid (RowF F w vr l.length 1 (mkCells z (l.length * 1))) := h1
  have hl : l.length ≤ 1048577 := hs
  clear h1 hs
  obtain ⟨W0, hW0⟩ : ∃ W0, w.alloc (.cells #[vr, .int .i64 q, .int .i64 d] 32) = W0 := ⟨_, rfl⟩
  have HB0 : Hid (Below w.heap.size w W0) := by rw [← hW0]; exact (Below.refl _ w).alloc (Nat.le_refl _) _
  have HP0 : Hid (Bk W0 w.heap.size 32 #[vr, .int .i64 q, .int .i64 d]) := by rw [← hW0]; exact Bk.new w _ _
  have p0 := HP0.out.cell (i := 0) rfl
  have n1 : ¬ (z + (l.length : Int) < 0) := by omega
  go_enter Try.func46, Try.ntmps46
  go_wp2_with fail
  clear p0 hW0
  refine (heldIF (F := F) z hl hz0 hz1 (HI.out.below HB0.out)).mono ?_
  rintro e w' ⟨rfl, hw⟩
  have hw' := hw.symm
  clear hw
  subst hw'
  go_wp2
  go_ret
  exact ⟨rfl, HB0.out⟩
set_option maxHeartbeats 2000000 in
theorem toState_any (x : Value) (s : St) (w : World) (hs : s.r.length ≤ 1048576) (h : IsS w x s) :
    Calls Try.prog 30 #[x] w fun e w' => ∃ y, e = .returned y ∧ Below w.heap.size w w' ∧ StF (fun k => w.heap.size ≤ k ∧ k < w'.heap.size) w' y s := by
  obtain ⟨vr, rfl, h1⟩ := h
  obtain ⟨i, n, z⟩ := s
  have HI : Hid (IsI w vr i) := h1
  have HS : Hid (i.length ≤ 1048576) := hs
  clear h1 hs
  obtain ⟨W0, hW0⟩ : ∃ W0, ((w.alloc (.cells #[vr, .int .i64 n, .int .i64 z] 24)).alloc (.cells #[.slice none 0 0, .int .i64 0, .int .i64 0] 32)).alloc (.cells #[.slice none 0 0, .int .i64 0, .int .i64 0] 32) = W0 := ⟨_, rfl⟩
  have HB0 : Hid (Below w.heap.size w W0) := by rw [← hW0]; exact (((Below.refl _ w).alloc (Nat.le_refl _) _).alloc (by simp) _).alloc (by simp; omega) _
  have HP0 : Hid (Bk W0 w.heap.size 24 #[vr, .int .i64 n, .int .i64 z]) := by rw [← hW0]; exact ((Bk.new w _ _).alloc _).alloc _
  have HR0 : Hid (Bk W0 (w.heap.size + 1) 32 #[.slice none 0 0, .int .i64 0, .int .i64 0]) := by rw [← hW0]; exact (Bk.newAt (by simp) _ _).alloc _
  have HQ0 : Hid (Bk W0 (w.heap.size + 1 + 1) 32 #[.slice none 0 0, .int .i64 0, .int .i64 0]) := by rw [← hW0]; exact Bk.newAt (by simp) _ _
  have HW0 : Hid (((w.alloc (.cells #[vr, .int .i64 n, .int .i64 z] 24)).alloc (.cells #[.slice none 0 0, .int .i64 0, .int .i64 0] 32)).alloc (.cells #[.slice none 0 0, .int .i64 0, .int .i64 0] 32) = W0) := hW0
  clear hW0
  go_enter Try.func30, Try.ntmps30
  go_wp2_with fail
  rw [HW0.out]
  clear HW0
  refine (toI_any _ i _ HS.out (HI.out.below HB0.out)).mono ?_
  rintro e w1 ⟨rfl, hb, hr⟩
  have HI1 : Hid (RowI w1 W0.heap.size i) := hr
  have hz1 : W0.heap.size < w1.heap.size := hr.1
  have hq := HQ0.out.lt
  have HX1 : Hid (Below w.heap.size w w1) := HB0.out.trans (hb.mono (by omega))
  have HPa := HP0.out.below hb
  have HRa := HR0.out.below hb
  have HQa := HQ0.out.below hb
  clear hb hr HB0 HP0 HR0 HQ0
  obtain ⟨X1, hX1⟩ : ∃ X1, w1.setCell ⟨w.heap.size + 1 + 1, 0, none⟩ (sl W0.heap.size i.length) = X1 := ⟨_, rfl⟩
  obtain ⟨X2, hX2⟩ : ∃ X2, X1.setCell ⟨w.heap.size + 1 + 1, 1, none⟩ (.int .i64 n) = X2 := ⟨_, rfl⟩
  obtain ⟨X3, hX3⟩ : ∃ X3, X2.setCell ⟨w.heap.size + 1 + 1, 2, none⟩ (.int .i64 z) = X3 := ⟨_, rfl⟩
  have a0 := HQa.cell (i := 0) rfl
  have af := HQa.free
  have HP1 : Bk X1 w.heap.size 24 #[vr, .int .i64 n, .int .i64 z] := hX1 ▸ HPa.other 0 _ (by omega)
  have HR1 : Bk X1 (w.heap.size + 1) 32 #[.slice none 0 0, .int .i64 0, .int .i64 0] := hX1 ▸ HRa.other 0 _ (by omega)
  have HQ1 : Bk X1 (w.heap.size + 1 + 1) 32 #[sl W0.heap.size i.length, .int .i64 0, .int .i64 0] := hX1 ▸ HQa.put 0 _
  have p1 := HP1.cell (i := 1) rfl
  have b1 := HQ1.cell (i := 1) rfl
  have bf := HQ1.free
  have HP2 : Bk X2 w.heap.size 24 #[vr, .int .i64 n, .int .i64 z] := hX2 ▸ HP1.other 1 _ (by omega)
  have HR2 : Bk X2 (w.heap.size + 1) 32 #[.slice none 0 0, .int .i64 0, .int .i64 0] := hX2 ▸ HR1.other 1 _ (by omega)
  have HQ2 : Bk X2 (w.heap.size + 1 + 1) 32 #[sl W0.heap.size i.length, .int .i64 n, .int .i64 0] := hX2 ▸ HQ1.put 1 _
  have p2 := HP2.cell (i := 2) rfl
  have c2 := HQ2.cell (i := 2) rfl
  have cf := HQ2.free
  have HR3 : Bk X3 (w.heap.size + 1) 32 #[.slice none 0 0, .int .i64 0, .int .i64 0] := hX3 ▸ HR2.other 2 _ (by omega)
  have HQ3 : Bk X3 (w.heap.size + 1 + 1) 32 #[sl W0.heap.size i.length, .int .i64 n, .int .i64 z] := hX3 ▸ HQ2.put 2 _
  have o0 := HQ3.cell (i := 0) rfl
  have o1 := HQ3.cell (i := 1) rfl
  have o2 := HQ3.cell (i := 2) rfl
  have r0 := HR3.cell (i := 0) rfl
  have r1 := HR3.cell (i := 1) rfl
  have r2 := HR3.cell (i := 2) rfl
  have rf := HR3.free
  have HR4 : Hid (Bk X3 (w.heap.size + 1) 32 #[.slice none 0 0, .int .i64 0, .int .i64 0]) := HR3
  have t1 := put1_turns w1 (w.heap.size + 1 + 1) 0 (sl W0.heap.size i.length)
  have t2 := put1_turns X1 (w.heap.size + 1 + 1) 1 (.int .i64 n)
  have t3 := put1_turns X2 (w.heap.size + 1 + 1) 2 (.int .i64 z)
  rw [hX1] at t1
  rw [hX2] at t2
  rw [hX3] at t3
  have HT : Hid (Turns (fun k => k = w.heap.size + 1 + 1) w1 X3) := (t1.trans t2).trans t3
  clear HPa HRa HQa HP1 HR1 HQ1 HP2 HR2 HQ2 HR3 HQ3 t1 t2 t3
  go_wp2
  clear o0 o1 o2 r0 r1 r2 rf a0 af p1 b1 bf p2 c2 cf
  obtain ⟨X5, hX5⟩ : ∃ X5, put3 X3 (w.heap.size + 1) (.slice (some ⟨W0.heap.size, 0, none⟩) i.length i.length) (.int .i64 n) (.int .i64 z) = X5 := ⟨_, rfl⟩
  have hR := HR4.out.put3 (.slice (some ⟨W0.heap.size, 0, none⟩) i.length i.length) (.int .i64 n) (.int .i64 z)
  have ht := put3_turns X3 (w.heap.size + 1) (.slice (some ⟨W0.heap.size, 0, none⟩) i.length i.length) (.int .i64 n) (.int .i64 z)
  rw [hX5] at hR ht
  unfold put3 at hX5
  rw [hX5]
  have t0 := hR.cell (i := 0) rfl
  have t1 := hR.cell (i := 1) rfl
  have t2 := hR.cell (i := 2) rfl
  have hT : Turns (fun k => k = w.heap.size + 1 + 1 ∨ k = w.heap.size + 1) w1 X5 := (HT.out.mono (fun k e => .inl e)).trans (ht.mono (fun k e => .inr e))
  have hsz := hT.size
  refine bodyPost_ret (v := .agg #[sl W0.heap.size i.length, .int .i64 n, .int .i64 z]) (by simp [results, Try.results30, go_sem, t0, t1, t2]) rfl
    ⟨_, rfl, HX1.out.trans (hT.to_below (fun k e => by omega) (by omega)), _, rfl, ?_⟩
  exact ((HI1.out.rowF (by have := HS.out; unfold maxLen; omega)).turns hT (fun k e => by omega)).mono (fun k e => by omega)
end Go.Proofs.Ytdcnimdhfhbdmaa

/- Both StateOk. -/
namespace Go.Proofs.Ytdcnimdhfhbdmaa
open Go.RowKit
def inB (x : Int) : Bool := decide (0 ≤ x ∧ x ≤ 999)
def St.ok (s : St) : Bool := decide (s.r.length = 2 ∧ (0 ≤ intAt s.r 0 ∧ intAt s.r 0 ≤ 999) ∧ (0 ≤ intAt s.r 1 ∧ intAt s.r 1 ≤ 999) ∧ 0 ≤ s.q ∧ s.q ≤ 99992 ∧ 0 ≤ s.d ∧ s.d ≤ 99992)
set_option maxRecDepth 100000 in
set_option maxHeartbeats 4000000 in
theorem sStOk (x : Value) (s : St) (w : World) (h : IsS w x s) :
    Calls Try.prog 56 #[x] w fun e w' => e = .returned (.bool s.ok) ∧ Below w.heap.size w w' := by
  obtain ⟨vr, rfl, ai, ci, rfl, hi1, hi2, hi3⟩ := h
  clear hi1 hi2
  obtain ⟨W0, hW0⟩ : ∃ W0, w.alloc (.cells #[.slice ai s.r.length ci, .int .i64 s.q, .int .i64 s.d] 32) = W0 := ⟨_, rfl⟩
  have HB0 : Hid (Below w.heap.size w W0) := by rw [← hW0]; exact (Below.refl _ w).alloc (Nat.le_refl _) _
  have HP0 : Bk W0 w.heap.size 32 #[.slice ai s.r.length ci, .int .i64 s.q, .int .i64 s.d] := by rw [← hW0]; exact Bk.new w _ _
  have p0 := HP0.cell (i := 0) rfl
  have p1 := HP0.cell (i := 1) rfl
  have p2 := HP0.cell (i := 2) rfl
  clear HP0
  by_cases c0 : s.r.length = 2
  case neg =>
    have c1 : ¬ ((s.r.length : Int) = 2) := by omega
    clear hi3
    go_enter Try.func56, Try.ntmps56
    go_wp2
    go_ret
    exact ⟨ret_bool (by simp [St.ok, c0]), HB0.out⟩
  obtain ⟨b, off, rfl, hb, hc⟩ := hi3.resolve_left (by intro e; rw [e] at c0; simp at c0)
  have f0 : W0.cell? ⟨b, off, none⟩ = some (.int .i64 (intAt s.r 0)) := (HB0.out.cell (p := ⟨b, off, none⟩) hb).trans (hc 0 (by omega))
  have f1 : W0.cell? ⟨b, off + 1, none⟩ = some (.int .i64 (intAt s.r 1)) := (HB0.out.cell (p := ⟨b, off + 1, none⟩) hb).trans (hc 1 (by omega))
  have hok : s.ok = decide ((0 ≤ intAt s.r 0 ∧ intAt s.r 0 ≤ 999) ∧ (0 ≤ intAt s.r 1 ∧ intAt s.r 1 ≤ 999) ∧ 0 ≤ s.q ∧ s.q ≤ 99992 ∧ 0 ≤ s.d ∧ s.d ≤ 99992) := by simp [St.ok, c0]
  have HOK : Hid (s.ok = decide ((0 ≤ intAt s.r 0 ∧ intAt s.r 0 ≤ 999) ∧ (0 ≤ intAt s.r 1 ∧ intAt s.r 1 ≤ 999) ∧ 0 ≤ s.q ∧ s.q ≤ 99992 ∧ 0 ≤ s.d ∧ s.d ≤ 99992)) := hok
  rw [c0] at hW0 p0 ⊢
  generalize s.ok = okv at HOK ⊢
  generalize intAt s.r 0 = y at f0 HOK
  generalize intAt s.r 1 = z at f1 HOK
  generalize s.q = q at hW0 p1 HOK ⊢
  generalize s.d = d at hW0 p2 HOK ⊢
  clear hc hb hok c0
  go_enter Try.func56, Try.ntmps56
  go_wp2
  all_goals
    go_ret
    refine ⟨?_, HB0.out⟩
    rw [HOK.out]
    first | exact ret_bool (decide_eq_decide.2 (by omega)) | exact ret_bool (decide_eq_false (by omega)).symm | exact ret_bool (by simp; omega)
set_option maxRecDepth 100000 in
set_option maxHeartbeats 4000000 in
theorem iStOk (x : Value) (s : St) (w : World) (h : IsS w x s) :
    Calls Try.prog 65 #[x] w fun e w' => e = .returned (.bool s.ok) ∧ Below w.heap.size w w' := by
  obtain ⟨vr, rfl, ai, ci, rfl, hi1, hi2, hi3⟩ := h
  clear hi1 hi2
  obtain ⟨W0, hW0⟩ : ∃ W0, w.alloc (.cells #[.slice ai s.r.length ci, .int .i64 s.q, .int .i64 s.d] 32) = W0 := ⟨_, rfl⟩
  have HB0 : Hid (Below w.heap.size w W0) := by rw [← hW0]; exact (Below.refl _ w).alloc (Nat.le_refl _) _
  have HP0 : Bk W0 w.heap.size 32 #[.slice ai s.r.length ci, .int .i64 s.q, .int .i64 s.d] := by rw [← hW0]; exact Bk.new w _ _
  have p0 := HP0.cell (i := 0) rfl
  have p1 := HP0.cell (i := 1) rfl
  have p2 := HP0.cell (i := 2) rfl
  clear HP0
  by_cases c0 : s.r.length = 2
  case neg =>
    have c1 : ¬ ((s.r.length : Int) = 2) := by omega
    clear hi3
    go_enter Try.func65, Try.ntmps65
    go_wp2
    go_ret
    exact ⟨ret_bool (by simp [St.ok, c0]), HB0.out⟩
  obtain ⟨b, off, rfl, hb, hc⟩ := hi3.resolve_left (by intro e; rw [e] at c0; simp at c0)
  have HC : Hid (∀ k, k < 2 → W0.cell? ⟨b, off + k, none⟩ = some (.int .i64 (intAt s.r k))) := fun k hk => (HB0.out.cell (p := ⟨b, off + k, none⟩) hb).trans (hc k (by omega))
  have HOK : Hid (s.ok = decide ((0 ≤ intAt s.r 0 ∧ intAt s.r 0 ≤ 999) ∧ (0 ≤ intAt s.r 1 ∧ intAt s.r 1 ≤ 999) ∧ 0 ≤ s.q ∧ s.q ≤ 99992 ∧ 0 ≤ s.d ∧ s.d ≤ 99992)) := (by simp [St.ok, c0] : s.ok = _)
  have HNO : Hid (∀ k, k < 2 → inB (intAt s.r k) = false → s.ok = false) := (by
    intro k hk h
    unfold inB at h
    have hd := of_decide_eq_false h
    simp only [St.ok, decide_eq_false_iff_not]
    intro hh
    match k, hk with
    | 0, _ => exact hd hh.2.1
    | 1, _ => exact hd hh.2.2.1 : ∀ k, k < 2 → inB (intAt s.r k) = false → s.ok = false)
  have HYES : Hid ((∀ j, j < 2 → inB (intAt s.r j) = true) → s.ok = ((decide (0 ≤ s.q) && decide (s.q ≤ 99992)) && (decide (0 ≤ s.d) && decide (s.d ≤ 99992)))) := (by
    intro h
    have h0 := of_decide_eq_true (h 0 (by omega))
    have h1 := of_decide_eq_true (h 1 (by omega))
    simp [St.ok, c0, h0, h1, Bool.decide_and, Bool.and_assoc] : _)
  rw [c0] at hW0 p0 ⊢
  generalize s.ok = okv at HOK HNO HYES ⊢
  generalize s.q = q at hW0 p1 HOK HYES ⊢
  generalize s.d = d at hW0 p2 HOK HYES ⊢
  clear hc hb c0 HOK
  go_enter Try.func65, Try.ntmps65
  go_wp2
  clear hW0
  go_loop [12] (fun i => ∃ k : Nat, k ≤ 2 ∧ i = .int .i64 k ∧ ∀ j, j < k → inB (intAt s.r j) = true) (fun i => 2 - (intOf i).toNat)
  case atStart => exact ⟨0, Nat.zero_le _, rfl, fun j hj => by omega⟩
  case round =>
    obtain ⟨k, hk, rfl, hall⟩ := hrel
    have HA : Hid (∀ j, j < k → inB (intAt s.r j) = true) := hall
    clear hall
    by_cases hlt : k < 2
    · have f0 := HC.out k hlt
      obtain ⟨y, hy⟩ : ∃ y, y = intAt s.r k := ⟨_, rfl⟩
      have HY : Hid (y = intAt s.r k) := hy
      rw [← hy] at f0
      have hkn : (k : Int) < 2 := by omega
      clear hy
      go_wp2_with fail
      refine (within_any _ _ _ _).mono ?_
      rintro e w2 ⟨rfl, hw⟩
      have hw' := hw.symm
      clear hw
      subst hw'
      by_cases y0 : 0 ≤ y ∧ y ≤ 999
      · rw [show (decide (0 ≤ y) && decide (y ≤ 999)) = true from by simp [y0]]
        have HN : Hid (inB y = true) := decide_eq_true y0
        clear y0
        go_wp2
        go_round
        case rel => exact ⟨k + 1, by omega, by go_num, fun j hj => by
          by_cases e : j < k
          · exact HA.out j e
          · rw [show j = k by omega, ← HY.out]; exact HN.out⟩
        case measure => simp [intOf]; omega
      · rw [show (decide (0 ≤ y) && decide (y ≤ 999)) = false from by simp; omega]
        have hno : okv = false := HNO.out k hlt (by rw [← HY.out]; exact decide_eq_false y0)
        subst hno
        clear y0
        go_wp2
        go_ret
        exact ⟨rfl, HB0.out⟩
    · have hyes := HYES.out (fun j hj => HA.out j (by omega))
      subst hyes
      have hkn : ¬ (k : Int) < 2 := by omega
      go_wp2_with fail
      refine (within_any _ _ _ _).mono ?_
      rintro e w2 ⟨rfl, hw⟩
      have hw' := hw.symm
      clear hw
      subst hw'
      cases hq : (decide (0 ≤ q) && decide (q ≤ 99992)) with
      | false =>
        have HQ : Hid ((decide (0 ≤ q) && decide (q ≤ 99992)) = false) := hq
        clear hq
        go_wp2
        go_ret
        exact ⟨ret_bool (by rw [HQ.out]; rfl), HB0.out⟩
      | true =>
        have HQ : Hid ((decide (0 ≤ q) && decide (q ≤ 99992)) = true) := hq
        clear hq
        go_wp2_with fail
        refine (within_any _ _ _ _).mono ?_
        rintro e w2 ⟨rfl, hw⟩
        have hw' := hw.symm
        clear hw
        subst hw'
        go_wp2
        go_ret
        exact ⟨ret_bool (by rw [HQ.out]; rfl), HB0.out⟩
end Go.Proofs.Ytdcnimdhfhbdmaa

