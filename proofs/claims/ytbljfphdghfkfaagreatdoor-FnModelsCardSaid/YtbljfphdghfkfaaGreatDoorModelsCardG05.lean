/- Evs, Rows2, MRow, MOpM, VTo, MTo, MSz, MModel -/
import Derived.Test.YtbljfphdghfkfaaGreatDoorModelsCardG03
import Derived.OwnWalk
import Derived.Test.YtbljfphdghfkfaaGreatDoorModelsCardG00
import Derived.Test.YtbljfphdghfkfaaGreatDoorModelsCardLMOpS
import Derived.Test.YtbljfphdghfkfaaGreatDoorModelsCardLMOpJ
import Derived.Deep.RegionHeld3
/- A list of events in memory, as the walks see it. -/
namespace Go.Proofs.YtbljfphdghfkfaaGreatDoor
open Go.RowKit
abbrev Ev.val (e : Ev) : Value := .agg #[.int .i64 e.t, .int .i64 e.s, .int .i64 e.q, .int .i64 e.d, .int .i64 e.k, .int .i64 e.v, .int .i64 e.g]
abbrev Ev.In (w : World) (b o : Nat) (e : Ev) : Prop := EvAt w b o e.t e.s e.q e.d e.k e.v e.g
def EvsAt (w : World) (b off : Nat) (l : List Ev) : Prop := b < w.heap.size ∧ ∀ i, i < l.length → Ev.In w b (off + i * 7) (evAt l i)
def IsEvs (w : World) (x : Value) (l : List Ev) : Prop := ∃ a cap, x = .slice a l.length cap ∧ l.length ≤ cap ∧ cap ≤ maxLen ∧ (l = [] ∨ ∃ b off, a = some ⟨b, off, none⟩ ∧ EvsAt w b off l)
theorem EvsAt.below {w w' : World} {B b off : Nat} {l : List Ev} (h : EvsAt w b off l) (hb : Below B w w') (hB : b < B) : EvsAt w' b off l :=
 ⟨Nat.lt_of_lt_of_le h.1 hb.size, fun i hi => (h.2 i hi).below hb hB⟩
theorem IsEvs.below {w w' : World} {x : Value} {l : List Ev} (h : IsEvs w x l) (hb : Below w.heap.size w w') : IsEvs w' x l := by
 obtain ⟨a, cap, rfl, h1, h2, h⟩ := h
 refine ⟨a, cap, rfl, h1, h2, ?_⟩
 rcases h with h | ⟨b, off, rfl, h⟩
 ·exact .inl h
 ·exact .inr ⟨b, off, rfl, h.below hb h.1⟩
abbrev put7 (w : World) (g o : Nat) (e : Ev) : World :=
 ((((((w.setCell ⟨g, o, none⟩ (.int .i64 e.t)).setCell ⟨g, o + 1, none⟩ (.int .i64 e.s)).setCell ⟨g, o + 2, none⟩ (.int .i64 e.q)).setCell ⟨g, o + 3, none⟩ (.int .i64 e.d)).setCell ⟨g, o + 4, none⟩ (.int .i64 e.k)).setCell ⟨g, o + 5, none⟩ (.int .i64 e.v)).setCell ⟨g, o + 6, none⟩ (.int .i64 e.g)
theorem info25 : (Tryz.prog.info? 53).map (fun i => (i.zero, i.size, i.bytes)) = some (some (.agg #[.int .i64 0, .int .i64 0, .int .i64 0, .int .i64 0, .int .i64 0, .int .i64 0, .int .i64 0]), 7, 56) := by kernel_rfl
end Go.Proofs.YtbljfphdghfkfaaGreatDoor

/- Events as a row of cells; a row of one's own. -/
namespace Go.Proofs.YtbljfphdghfkfaaGreatDoor
open Go.RowKit
def Ev.cs (e : Ev) : List Value := [.int .i64 e.t, .int .i64 e.s, .int .i64 e.q, .int .i64 e.d, .int .i64 e.k, .int .i64 e.v, .int .i64 e.g]
def cellsL : List Ev → List Value
 | [] => []
 | e :: l => e.cs ++ cellsL l
theorem cellsL_length : ∀ l : List Ev, (cellsL l).length = l.length * 7
 | [] => rfl
 | e :: l => by simp [cellsL, cellsL_length l, Ev.cs]; omega
theorem cellsL_append : ∀ l l' : List Ev, cellsL (l ++ l') = cellsL l ++ cellsL l'
 | [], _ => rfl
 | e :: l, l' => by simp [cellsL, cellsL_append l l']
theorem evAt_cons_succ (e : Ev) (l : List Ev) (i : Nat) : evAt (e :: l) (i + 1) = evAt l i := by simp [evAt]
theorem cellsL_get : ∀ (l : List Ev) (i r : Nat), i < l.length → r < 7 → (cellsL l)[i * 7 + r]? = (evAt l i).cs[r]?
 | [], _, _, h, _ => by simp at h
 | e :: l, 0, r, _, hr => by
  have : r < e.cs.length := by simpa [Ev.cs] using hr
  simp only [cellsL, Nat.zero_mul, Nat.zero_add]
  rw [List.getElem?_append_left this]
  simp [evAt]
 | e :: l, i + 1, r, h, hr => by
  have h1 := cellsL_get l i r (by simpa using h) hr
  have : e.cs.length ≤ (i + 1) * 7 + r := by simp [Ev.cs]; omega
  simp only [cellsL]
  rw [List.getElem?_append_right this, evAt_cons_succ, ← h1]
  congr 1
  simp [Ev.cs]; omega
theorem cellsL_one (l : List Ev) : ∀ u ∈ cellsL l, u.oneCell' = true := by
 induction l with
 | nil => intro u h; cases h
 | cons e l ih =>
  intro u h
  rcases List.mem_append.1 h with h | h
  ·simp [Ev.cs] at h
   rcases h with rfl | rfl | rfl | rfl | rfl | rfl | rfl <;> rfl
  ·exact ih u h
theorem Ev.In.get {w : World} {b o : Nat} {e : Ev} (h : Ev.In w b o e) {r : Nat} {u : Value} (hu : e.cs[r]? = some u) : w.cell? ⟨b, o + r, none⟩ = some u := by
 have hr : r < 7 := by have := (List.getElem?_eq_some_iff.1 hu).1; simpa [Ev.cs] using this
 have h7 : r = 0 ∨ r = 1 ∨ r = 2 ∨ r = 3 ∨ r = 4 ∨ r = 5 ∨ r = 6 := by omega
 rcases h7 with rfl | rfl | rfl | rfl | rfl | rfl | rfl <;> (simp [Ev.cs] at hu; subst hu)
 ·exact h.f0
 ·exact h.f1
 ·exact h.f2
 ·exact h.f3
 ·exact h.f4
 ·exact h.f5
 ·exact h.f6
theorem addr_add (b off n : Nat) : (⟨b, off, none⟩ : Addr).add n = ⟨b, off + n, none⟩ := by
 unfold Addr.add
 split <;> simp_all
theorem EvsAt.cells {w : World} {b off : Nat} {l : List Ev} (h : EvsAt w b off l) : ∀ j u, (cellsL l)[j]? = some u → w.cell? ((⟨b, off, none⟩ : Addr).add j) = some u := by
 intro j u hu
 have hj : j < l.length * 7 := by have := (List.getElem?_eq_some_iff.1 hu).1; rw [cellsL_length] at this; exact this
 rw [addr_add]
 have hi : j / 7 < l.length := by omega
 rw [show j = j / 7 * 7 + j % 7 from by omega, cellsL_get l _ _ hi (by omega)] at hu
 have := (h.2 _ hi).get hu
 rw [show off + j = off + j / 7 * 7 + j % 7 from by omega]
 exact this
end Go.Proofs.YtbljfphdghfkfaaGreatDoor

/- Rows of cells in blocks of F: what they hold, and what stays of them. -/
namespace Go.Proofs.YtbljfphdghfkfaaGreatDoor
open Go.RowKit
def RowF (F : Nat → Prop) (w : World) (x : Value) (n c : Nat) (cs : List Value) : Prop :=
 cs.length = n * c ∧ ∃ a cap, x = .slice a n cap ∧ n ≤ cap ∧ cap ≤ maxLen ∧
  (n = 0 ∨ ∃ g, a = some ⟨g, 0, none⟩ ∧ F g ∧ g < w.heap.size ∧ ∀ j, j < n * c → w.cell? ⟨g, j, none⟩ = cs[j]? ∧ w.frozen? ⟨g, j, none⟩ = false)
theorem RowF.turns {F S : Nat → Prop} {w w' : World} {x : Value} {n c : Nat} {cs : List Value} (h : RowF F w x n c cs) (ht : Turns S w w') (hS : ∀ k, F k → ¬ S k) : RowF F w' x n c cs := by
 obtain ⟨hl, a, cap, rfl, h1, h2, h⟩ := h
 refine ⟨hl, a, cap, rfl, h1, h2, h.imp id ?_⟩
 rintro ⟨g, rfl, hF, hg, hc⟩
 exact ⟨g, rfl, hF, Nat.lt_of_lt_of_le hg ht.size, fun j hj => by rw [ht.cell hg (hS g hF), ht.frozen hg (hS g hF)]; exact hc j hj⟩
theorem RowF.below {F : Nat → Prop} {w w' : World} {x : Value} {n c : Nat} {cs : List Value} (h : RowF F w x n c cs) (hb : Below w.heap.size w w') : RowF F w' x n c cs :=
 h.turns (S := fun _ => False) (Turns.of_below hb) (fun _ _ => id)
theorem RowF.mono {F F' : Nat → Prop} {w : World} {x : Value} {n c : Nat} {cs : List Value} (h : RowF F w x n c cs) (hF : ∀ k, F k → F' k) : RowF F' w x n c cs := by
 obtain ⟨hl, a, cap, rfl, h1, h2, h⟩ := h
 exact ⟨hl, a, cap, rfl, h1, h2, h.imp id (fun ⟨g, e, h3, h4⟩ => ⟨g, e, hF g h3, h4⟩)⟩
theorem RowF.of_owns {B : Nat} {T : TypeId} {w : World} {x : Value} {n c : Nat} {cs : List Value} (hcs : cs.length = n * c) (h : w.ownsRow B T c x n cs) : RowF (fun k => B ≤ k ∧ k < w.heap.size) w x n c cs := by
 obtain ⟨hl, ⟨rfl, h0⟩ | ⟨g, cap, cur, rfl, hg, hc, h1, h2, h3, h4⟩⟩ := h
 ·exact ⟨hcs, none, 0, by rw [h0], by omega, by unfold maxLen; omega, .inl h0⟩
 ·have hlt : g < w.heap.size := (Array.getElem?_eq_some_iff.1 hc).1
  refine ⟨hcs, _, cap, rfl, h1, h2, .inr ⟨g, rfl, ⟨hg, hlt⟩, hlt, fun j hj => ?_⟩⟩
  have hj2 : j < cur.size := by rw [h3]; exact Nat.lt_of_lt_of_le hj (Nat.mul_le_mul_right c h1)
  refine ⟨?_, by simp [World.frozen?, hc]⟩
  rw [← h4, List.getElem?_take_of_lt (by omega)]
  simp [World.cell?, hc]
theorem intCells_length (l : List Int) : (intCells l).length = l.length := by simp [intCells]
theorem RowF.isI {F : Nat → Prop} {w : World} {x : Value} {l : List Int} (h : RowF F w x l.length 1 (intCells l)) : IsI w x l := by
 obtain ⟨hl, a, cap, rfl, h1, h2, h⟩ := h
 refine ⟨a, cap, rfl, h1, h2, h.imp List.eq_nil_of_length_eq_zero ?_⟩
 rintro ⟨g, rfl, hF, hg, hc⟩
 refine ⟨g, 0, rfl, hg, fun i hi => ?_⟩
 rw [Nat.zero_add, (hc i (by omega)).1]
 simp [intCells, intAt, hi]
structure OAt (w : World) (b o : Nat) (e : O) : Prop where
 f0 : w.cell? ⟨b, o, none⟩ = some (.int .i64 e.c)
 f1 : w.cell? ⟨b, o + 1, none⟩ = some (.int .i64 e.a)
 f2 : w.cell? ⟨b, o + 2, none⟩ = some (.int .i64 e.b)
 f3 : w.cell? ⟨b, o + 3, none⟩ = some (.int .i64 e.k)
theorem OAt.below {w w' : World} {B b o : Nat} {e : O} (h : OAt w b o e) (hb : Below B w w') (hlt : b < B) : OAt w' b o e :=
 ⟨(hb.cell hlt).trans h.f0, (hb.cell hlt).trans h.f1, (hb.cell hlt).trans h.f2, (hb.cell hlt).trans h.f3⟩
def OsAt (w : World) (b off : Nat) (l : List O) : Prop := b < w.heap.size ∧ ∀ i, i < l.length → OAt w b (off + i * 4) (oAt l i)
def IsO (w : World) (x : Value) (l : List O) : Prop := ∃ a cap, x = .slice a l.length cap ∧ l.length ≤ cap ∧ cap ≤ maxLen ∧ (l = [] ∨ ∃ b off, a = some ⟨b, off, none⟩ ∧ OsAt w b off l)
theorem OsAt.below {w w' : World} {B b off : Nat} {l : List O} (h : OsAt w b off l) (hb : Below B w w') (hB : b < B) : OsAt w' b off l :=
 ⟨Nat.lt_of_lt_of_le h.1 hb.size, fun i hi => (h.2 i hi).below hb hB⟩
theorem IsO.below {w w' : World} {x : Value} {l : List O} (h : IsO w x l) (hb : Below w.heap.size w w') : IsO w' x l := by
 obtain ⟨a, cap, rfl, h1, h2, h⟩ := h
 exact ⟨a, cap, rfl, h1, h2, h.imp id (fun ⟨b, off, e, h⟩ => ⟨b, off, e, h.below hb h.1⟩)⟩
theorem RowF.isO {F : Nat → Prop} {w : World} {x : Value} {l : List O} (h : RowF F w x l.length 4 (cellsO l)) : IsO w x l := by
 obtain ⟨hl, a, cap, rfl, h1, h2, h⟩ := h
 refine ⟨a, cap, rfl, h1, h2, h.imp List.eq_nil_of_length_eq_zero ?_⟩
 rintro ⟨g, rfl, hF, hg, hc⟩
 refine ⟨g, 0, rfl, hg, fun i hi => ?_⟩
 have hget : ∀ r, r < 4 → w.cell? ⟨g, 0 + i * 4 + r, none⟩ = (oAt l i).cs[r]? := fun r hr => by
  rw [← cellsO_get l i r hi hr, Nat.zero_add]
  exact (hc _ (by omega)).1
 exact ⟨hget 0 (by omega), hget 1 (by omega), hget 2 (by omega), hget 3 (by omega)⟩
theorem RowF.isEvs {F : Nat → Prop} {w : World} {x : Value} {l : List Ev} (h : RowF F w x l.length 7 (cellsL l)) : IsEvs w x l := by
 obtain ⟨hl, a, cap, rfl, h1, h2, h⟩ := h
 refine ⟨a, cap, rfl, h1, h2, h.imp List.eq_nil_of_length_eq_zero ?_⟩
 rintro ⟨g, rfl, hF, hg, hc⟩
 refine ⟨g, 0, rfl, hg, fun i hi => ?_⟩
 have hget : ∀ r, r < 7 → w.cell? ⟨g, 0 + i * 7 + r, none⟩ = (evAt l i).cs[r]? := fun r hr => by
  rw [← cellsL_get l i r hi hr, Nat.zero_add]
  exact (hc _ (by omega)).1
 exact ⟨hget 0 (by omega), hget 1 (by omega), hget 2 (by omega), hget 3 (by omega), hget 4 (by omega), hget 5 (by omega), hget 6 (by omega)⟩
def IsH (w : World) (x : Value) (l : List (List O)) : Prop := ∃ a cap, x = .slice a l.length cap ∧ l.length ≤ cap ∧ cap ≤ maxLen ∧
 (l = [] ∨ ∃ b off, a = some ⟨b, off, none⟩ ∧ b < w.heap.size ∧ ∀ i, i < l.length → ∃ u, w.cell? ⟨b, off + i, none⟩ = some u ∧ IsO w u (hAt l i))
theorem IsH.below {w w' : World} {x : Value} {l : List (List O)} (h : IsH w x l) (hb : Below w.heap.size w w') : IsH w' x l := by
 obtain ⟨a, cap, rfl, h1, h2, h⟩ := h
 exact ⟨a, cap, rfl, h1, h2, h.imp id (fun ⟨b, off, e, hB, h⟩ => ⟨b, off, e, Nat.lt_of_lt_of_le hB hb.size, fun i hi => by
  obtain ⟨u, hu, ho⟩ := h i hi
  exact ⟨u, (hb.cell (p := ⟨b, off + i, none⟩) hB).trans hu, ho.below hb⟩⟩)⟩
def RowsF (F : Nat → Prop) (w : World) (x : Value) (n : Nat) (U : Nat → Value) (L : Nat → Nat) (C : Nat → List Value) : Prop :=
 ∃ (F0 : Nat → Prop) (G : Nat → Nat → Prop), RowF F0 w x n 1 ((List.range n).map U) ∧ (∀ k, F0 k → F k) ∧
  (∀ i, i < n → RowF (G i) w (U i) (L i) 4 (C i) ∧ ∀ k, G i k → F k ∧ ¬ F0 k) ∧ ∀ i j, i < n → j < n → i ≠ j → ∀ k, G i k → ¬ G j k
theorem RowsF.turns {F S : Nat → Prop} {w w' : World} {x : Value} {n : Nat} {U : Nat → Value} {L : Nat → Nat} {C : Nat → List Value} (h : RowsF F w x n U L C) (ht : Turns S w w') (hS : ∀ k, F k → ¬ S k) : RowsF F w' x n U L C := by
 obtain ⟨F0, G, h0, hF, h1, h2⟩ := h
 exact ⟨F0, G, h0.turns ht (fun k hk => hS k (hF k hk)), hF, fun i hi => ⟨(h1 i hi).1.turns ht (fun k hk => hS k ((h1 i hi).2 k hk).1), (h1 i hi).2⟩, h2⟩
def HsF (F : Nat → Prop) (w : World) (x : Value) (l : List (List O)) : Prop := ∃ U, RowsF F w x l.length U (fun i => (hAt l i).length) (fun i => cellsO (hAt l i))
theorem HsF.isH {F : Nat → Prop} {w : World} {x : Value} {l : List (List O)} (h : HsF F w x l) : IsH w x l := by
 obtain ⟨U, F0, G, ⟨hl, a, cap, rfl, h1, h2, h⟩, hF, h3, _⟩ := h
 refine ⟨a, cap, rfl, h1, h2, h.imp List.eq_nil_of_length_eq_zero ?_⟩
 rintro ⟨g, rfl, _, hg, hc⟩
 refine ⟨g, 0, rfl, hg, fun i hi => ⟨U i, ?_, (h3 i hi).1.isO⟩⟩
 rw [Nat.zero_add, (hc i (by omega)).1]
 simp [hi]
def IsM (w : World) (x : Value) (m : Md) : Prop := ∃ vi vh vs, x = .agg #[.int .i64 m.n, .int .i64 m.s, vi, vh, vs, .int .i64 m.z] ∧ IsI w vi m.i ∧ IsH w vh m.h ∧ IsEvs w vs m.e
theorem IsM.below {w w' : World} {x : Value} {m : Md} (h : IsM w x m) (hb : Below w.heap.size w w') : IsM w' x m := by
 obtain ⟨vi, vh, vs, rfl, h1, h2, h3⟩ := h
 exact ⟨vi, vh, vs, rfl, h1.below hb, h2.below hb, h3.below hb⟩
def MdF (F : Nat → Prop) (w : World) (x : Value) (m : Md) : Prop :=
 ∃ (A B C : Nat → Prop) (vi vh vs : Value), x = .agg #[.int .i64 m.n, .int .i64 m.s, vi, vh, vs, .int .i64 m.z] ∧ RowF A w vi m.i.length 1 (intCells m.i) ∧ HsF B w vh m.h ∧ RowF C w vs m.e.length 7 (cellsL m.e) ∧
  (∀ k, A k → F k ∧ ¬ B k ∧ ¬ C k) ∧ (∀ k, B k → F k ∧ ¬ C k) ∧ ∀ k, C k → F k
theorem MdF.isM {F : Nat → Prop} {w : World} {x : Value} {m : Md} (h : MdF F w x m) : IsM w x m := by
 obtain ⟨A, B, C, vi, vh, vs, rfl, h1, h2, h3, _⟩ := h
 exact ⟨vi, vh, vs, rfl, h1.isI, h2.isH, h3.isEvs⟩
theorem MdF.turns {F S : Nat → Prop} {w w' : World} {x : Value} {m : Md} (h : MdF F w x m) (ht : Turns S w w') (hS : ∀ k, F k → ¬ S k) : MdF F w' x m := by
 obtain ⟨A, B, C, vi, vh, vs, rfl, h1, ⟨U, h2⟩, h3, h4, h5, h6⟩ := h
 exact ⟨A, B, C, vi, vh, vs, rfl, h1.turns ht (fun k hk => hS k (h4 k hk).1), ⟨U, h2.turns ht (fun k hk => hS k (h5 k hk).1)⟩, h3.turns ht (fun k hk => hS k (h6 k hk)), h4, h5, h6⟩
theorem MdF.mono {F F' : Nat → Prop} {w : World} {x : Value} {m : Md} (h : MdF F w x m) (hF : ∀ k, F k → F' k) : MdF F' w x m := by
 obtain ⟨A, B, C, vi, vh, vs, rfl, h1, h2, h3, h4, h5, h6⟩ := h
 exact ⟨A, B, C, vi, vh, vs, rfl, h1, h2, h3, fun k hk => ⟨hF k (h4 k hk).1, (h4 k hk).2⟩, fun k hk => ⟨hF k (h5 k hk).1, (h5 k hk).2⟩, fun k hk => hF k (h6 k hk)⟩
end Go.Proofs.YtbljfphdghfkfaaGreatDoor

/- Both OpOk, of a model that is read. -/
namespace Go.Proofs.YtbljfphdghfkfaaGreatDoor
open Go.RowKit
theorem sOpM (x : Value) (m : Md) (c a b k : Int) (w : World) (h : IsM w x m) :
  Calls Tryz.prog 29 #[x, .agg #[.int .i64 c, .int .i64 a, .int .i64 b, .int .i64 k]] w fun e w' => e = .returned (.bool (okO m.n m.h.length c a b k)) ∧ Below w.heap.size w w' := by
 obtain ⟨vi, vh, vs, rfl, _, ⟨ah, cap, rfl, _⟩, _⟩ := h
 exact sOp_any _ _ _ _ _ _ _ _ _ _ _ _ _
theorem iOpM (x : Value) (m : Md) (c a b k : Int) (w : World) (h : IsM w x m) :
  Calls Tryz.prog 13 #[x, .agg #[.int .i64 c, .int .i64 a, .int .i64 b, .int .i64 k]] w fun e w' => e = .returned (.bool (okO m.n m.h.length c a b k)) ∧ Below w.heap.size w w' := by
 obtain ⟨vi, vh, vs, rfl, _, ⟨ah, cap, rfl, _⟩, _⟩ := h
 exact iOp_any _ _ _ _ _ _ _ _ _ _ _ _ _
end Go.Proofs.YtbljfphdghfkfaaGreatDoor

/- toIntS: a row of one's own. -/
namespace Go.Proofs.YtbljfphdghfkfaaGreatDoor
open Go.RowKit
abbrev sl (g n : Nat) : Value := .slice (some ⟨g, 0, none⟩) n n
theorem info3 : (Tryz.prog.info? 3).map (fun i => (i.zero, i.size, i.bytes)) = some (some (.int .i64 0), 1, 8) := by kernel_rfl
theorem info_parts {i : TypeId} {z : Option Value} {s b : Nat} (h : (Tryz.prog.info? i).map (fun i => (i.zero, i.size, i.bytes)) = some (z, s, b)) : ∃ i0, Tryz.prog.info? i = some i0 ∧ i0.zero = z ∧ i0.size = s ∧ i0.bytes = b := by
 obtain ⟨i0, h1, h2⟩ := Option.map_eq_some_iff.1 h
 simp only [Prod.mk.injEq] at h2
 exact ⟨i0, h1, h2.1, h2.2.1, h2.2.2⟩
end Go.Proofs.YtbljfphdghfkfaaGreatDoor

/- toOp, toOpS: ops that are copied into a row of one's own. -/
namespace Go.Proofs.YtbljfphdghfkfaaGreatDoor
open Go.RowKit
theorem infoOp : (Tryz.prog.info? 39).map (fun i => (i.zero, i.size, i.bytes)) = some (some (.agg #[.int .i64 0, .int .i64 0, .int .i64 0, .int .i64 0]), 4, 32) := by kernel_rfl
end Go.Proofs.YtbljfphdghfkfaaGreatDoor

/- szModel: whether there is too much of it. -/
namespace Go.Proofs.YtbljfphdghfkfaaGreatDoor
open Go.RowKit
def sumL (L : Nat → Nat) : Nat → Nat
 | 0 => 0
 | k + 1 => sumL L k + L k
def lens (l : List (List O)) (i : Nat) : Nat := (hAt l i).length
theorem hAt_out {l : List (List O)} {i : Nat} (h : l.length ≤ i) : hAt l i = [] := by simp [hAt, h]
end Go.Proofs.YtbljfphdghfkfaaGreatDoor

/- toModel, szModel, eqModel, markModel, heldModel. -/
namespace Go.Proofs.YtbljfphdghfkfaaGreatDoor
open Go.RowKit
structure SmallM (m : Md) : Prop where
 i : m.i.length ≤ 1048576
 h : m.h.length ≤ 1048576
 r : ∀ i, (hAt m.h i).length ≤ 1048576
 t : sumL (lens m.h) m.h.length ≤ 1048576
 e : m.e.length ≤ 1048576
end Go.Proofs.YtbljfphdghfkfaaGreatDoor

