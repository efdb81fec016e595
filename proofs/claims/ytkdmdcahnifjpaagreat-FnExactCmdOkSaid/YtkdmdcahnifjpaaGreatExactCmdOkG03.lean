/- NInts, VOpen, Open, CkO -/
import Derived.Test.YtkdmdcahnifjpaaGreatExactCmdOkG00
import Derived.OwnWalk
import Derived.Deep.RegionHeld3
import Derived.ProofKit
import Derived.ChangeOld
import Derived.OpenShut
import Derived.SizedLaws
import Derived.Test.YtkdmdcahnifjpaaGreatRows
import Derived.Below
import Derived.Test.YtkdmdcahnifjpaaGreatExactCmdOkLMBox
/- Rows of numbers: eqIntS where both sides are the same, markIntS, heldIntS. -/
namespace Go.Proofs.YtkdmdcahnifjpaaGreat
open Go.RowKit
def intAt (l : List Int) (i : Nat) : Int := l.getD i 0
def intCells (l : List Int) : List Value := l.map (Value.int .i64)
/- The bytes of l lie in block b from off on. -/
def IntsAt (w : World) (b off : Nat) (l : List Int) : Prop := b < w.heap.size ∧ ∀ i, i < l.length → w.cell? ⟨b, off + i, none⟩ = some (.int .i64 (intAt l i))
def IsI (w : World) (x : Value) (l : List Int) : Prop := ∃ a cap, x = .slice a l.length cap ∧ l.length ≤ cap ∧ cap ≤ maxLen ∧ (l = [] ∨ ∃ b off, a = some ⟨b, off, none⟩ ∧ IntsAt w b off l)
theorem IntsAt.below {w w' : World} {B b off : Nat} {l : List Int} (h : IntsAt w b off l) (hb : Below B w w') (hB : b < B) : IntsAt w' b off l :=
  ⟨Nat.lt_of_lt_of_le h.1 hb.size, fun i hi => (hb.cell hB).trans (h.2 i hi)⟩
theorem IsI.below {w w' : World} {x : Value} {l : List Int} (h : IsI w x l) (hb : Below w.heap.size w w') : IsI w' x l := by
  obtain ⟨a, cap, rfl, h1, h2, h⟩ := h
  exact ⟨a, cap, rfl, h1, h2, h.imp id (fun ⟨b, off, e, h⟩ => ⟨b, off, e, h.below hb h.1⟩)⟩
/- The block g holds n cells that may be written; the first k of them hold the marks. -/
def MarkTo (w : World) (g n k : Nat) : Prop := g < w.heap.size ∧ (∀ j, j < n → (w.cell? ⟨g, j, none⟩).isSome = true ∧ w.frozen? ⟨g, j, none⟩ = false) ∧ ∀ i, i < k → w.cell? ⟨g, i, none⟩ = some (.int .i64 ((i : Int) + 1))
theorem MarkTo.below {w w' : World} {B g n k : Nat} (h : MarkTo w g n k) (hb : Below B w w') (hB : g < B) : MarkTo w' g n k :=
  ⟨Nat.lt_of_lt_of_le h.1 hb.size, fun j hj => by rw [hb.cell (p := ⟨g, j, none⟩) hB, hb.frozen (p := ⟨g, j, none⟩) hB]; exact h.2.1 j hj, fun i hi => (hb.cell hB).trans (h.2.2 i hi)⟩
theorem MarkTo.put {w : World} {g n k : Nat} (h : MarkTo w g n k) (hk : k < n) : MarkTo (w.setCell ⟨g, k, none⟩ (.int .i64 ((k : Int) + 1))) g n (k + 1) := by
  have e1 : w.setCell ⟨g, k, none⟩ (.int .i64 ((k : Int) + 1)) = w.setCells g k [.int .i64 ((k : Int) + 1)] := rfl
  have hsame : ∀ j, j ≠ k → (w.setCell ⟨g, k, none⟩ (.int .i64 ((k : Int) + 1))).cell? ⟨g, j, none⟩ = w.cell? ⟨g, j, none⟩ := fun j hj => by
    rw [e1]
    exact World.cell?_setCells_out g _ k w ⟨g, j, none⟩ (fun _ _ => by simp; omega)
  have hat : (w.setCell ⟨g, k, none⟩ (.int .i64 ((k : Int) + 1))).cell? ⟨g, k, none⟩ = some (.int .i64 ((k : Int) + 1)) := by
    rw [e1]
    have h0 := World.cell?_setCells_in g [.int .i64 ((k : Int) + 1)] k w (fun j hj => by
      obtain rfl : j = 0 := by simpa using hj
      exact (h.2.1 k hk).1) 0 (by simp)
    simpa using h0
  refine ⟨by simpa using h.1, fun j hj => ?_, fun i hi => ?_⟩
  · refine ⟨?_, ?_⟩
    · by_cases e : j = k
      · subst e; rw [hat]; rfl
      · rw [hsame j e]; exact (h.2.1 j hj).1
    · rw [e1, World.frozen?_setCells]; exact (h.2.1 j hj).2
  · by_cases e : i = k
    · subst e; exact hat
    · rw [hsame i e]; exact h.2.2 i (by omega)
theorem grown_refl (w : World) (row : Option Nat) : w.grownBy w row := ⟨rfl, rfl, rfl, Nat.le_refl _, fun _ _ _ => rfl⟩
theorem grown_trans {w w' w'' : World} {row : Option Nat} (h : w.grownBy w' row) (h' : w'.grownBy w'' row) : w.grownBy w'' row :=
  ⟨h'.os.trans h.os, h'.tape.trans h.tape, h'.output.trans h.output, Nat.le_trans h.size h'.size, fun k hk hr => (h'.block k (Nat.lt_of_lt_of_le hk h.size) hr).trans (h.block k hk hr)⟩
theorem setCell_grown (w : World) (g o : Nat) (v : Value) : w.grownBy (w.setCell ⟨g, o, none⟩ v) (some g) := by
  refine ⟨?_, ?_, ?_, by simp, fun k _ hk => Below.heap_setCell _ _ _ _ (fun e => hk (by rw [e]))⟩
  all_goals (unfold World.setCell; rfl)

/- A slice over the bytes l, in a block of its own from B on, all of whose cells may be written. -/
def OwnI (B : Nat) (w : World) (x : Value) (l : List Int) : Prop := ∃ a cap, x = .slice a l.length cap ∧ l.length ≤ cap ∧ cap ≤ maxLen ∧ (l = [] ∨ ∃ g, a = some ⟨g, 0, none⟩ ∧ B ≤ g ∧ (∀ j, j < l.length → w.frozen? ⟨g, j, none⟩ = false) ∧ IntsAt w g 0 l)
theorem OwnI.nil (B : Nat) (w : World) : OwnI B w (.slice none 0 0) [] := ⟨none, 0, rfl, Nat.le_refl _, Nat.zero_le _, .inl rfl⟩
theorem OwnI.isI {B : Nat} {w : World} {x : Value} {l : List Int} (h : OwnI B w x l) : IsI w x l := by
  obtain ⟨a, cap, rfl, h1, h2, h⟩ := h
  exact ⟨a, cap, rfl, h1, h2, h.imp id (fun ⟨g, e, _, _, hr⟩ => ⟨g, 0, e, hr⟩)⟩
theorem OwnI.below {B : Nat} {w w' : World} {x : Value} {l : List Int} (h : OwnI B w x l) (hb : Below w.heap.size w w') : OwnI B w' x l := by
  obtain ⟨a, cap, rfl, h1, h2, h⟩ := h
  exact ⟨a, cap, rfl, h1, h2, h.imp id (fun ⟨g, e, hg, hf, hr⟩ => ⟨g, e, hg, fun j hj => (hb.frozen (p := ⟨g, j, none⟩) hr.1).trans (hf j hj), hr.below hb hr.1⟩)⟩
theorem OwnI.mono {B B' : Nat} {w : World} {x : Value} {l : List Int} (h : OwnI B w x l) (hb : B' ≤ B) : OwnI B' w x l := by
  obtain ⟨a, cap, rfl, h1, h2, h⟩ := h
  exact ⟨a, cap, rfl, h1, h2, h.imp id (fun ⟨g, e, hg, hr⟩ => ⟨g, e, Nat.le_trans hb hg, hr⟩)⟩
theorem OwnI.of_row {B : Nat} {w : World} {x : Value} {l : List Int} (h : w.ownsRow B 3 1 x l.length (intCells l)) : OwnI B w x l := by
  obtain ⟨hl, ⟨rfl, h0⟩ | ⟨g, cap, cur, rfl, hg, hc, h1, h2, h3, h4⟩⟩ := h
  · exact ⟨none, 0, by rw [h0], by omega, by unfold maxLen; omega, .inl (List.eq_nil_of_length_eq_zero h0)⟩
  · refine ⟨_, cap, rfl, h1, h2, .inr ⟨g, rfl, hg, fun j hj => ?_, (Array.getElem?_eq_some_iff.1 hc).1, fun i hi => ?_⟩⟩
    · have hj2 : j < cur.size := by omega
      simp [World.frozen?, hc]
    · have e1 : w.cell? ⟨g, i, none⟩ = (intCells l)[i]? := by
        rw [← h4, List.getElem?_take_of_lt (by omega)]
        simp [World.cell?, hc]
      rw [Nat.zero_add, e1]
      simp [intCells, intAt, hi]
/- At most one row, at or above B, has turned. -/
def Turned (B : Nat) (w w' : World) : Prop := w' = w ∨ ∃ g, B ≤ g ∧ w.grownBy w' (some g)
theorem Turned.below {B : Nat} {w w' : World} (h : Turned B w w') (hB : B ≤ w.heap.size) : Below B w w' := by
  rcases h with rfl | ⟨g, hg, h⟩
  · exact Below.refl _ _
  · exact (Below.refl B w).grown h hB (fun k e => by cases e; exact hg)
def HeldI (w : World) (x : Value) (m : Int) : Prop := ∃ a n cap, x = .slice a n cap ∧ m = ((n : Nat) : Int) + 1 ∧ n ≤ 4611686018427387904 ∧ (n = 0 ∨ ∃ g, a = some ⟨g, 0, none⟩ ∧ MarkTo w g n n)
theorem HeldI.below {w w' : World} {x : Value} {m : Int} (h : HeldI w x m) (hb : Below w.heap.size w w') : HeldI w' x m := by
  obtain ⟨a, n, cap, h1, h2, h3, h4⟩ := h
  exact ⟨a, n, cap, h1, h2, h3, h4.imp id (fun ⟨g, e, hr⟩ => ⟨g, e, hr.below hb hr.1⟩)⟩
end Go.Proofs.YtkdmdcahnifjpaaGreat

/- How a list of numbers that came in is read. -/
namespace Go.Proofs.YtkdmdcahnifjpaaGreat
open Go.ChangeShapes Go.WideShapes Go.ChangeAt Go.RowKit

theorem own : ownKnob Tryz.prog.godebug = none := by kernel_rfl
theorem laidOut : laidOutB Tryz.prog = true := by kernel_rfl
theorem cells3 : Tryz.prog.cellsOf 3 = 1 := by kernel_rfl
theorem add_plain (b off n : Nat) : (⟨b, off, none⟩ : Addr).add n = ⟨b, off + n, none⟩ := by
  unfold Addr.add
  split <;> simp_all
theorem ints_list {w : World} {b off : Nat} : ∀ n, (∀ i, i < n → ∃ z : Int, w.cell? ⟨b, off + i, none⟩ = some (.int .i64 z)) → ∃ l : List Int, l.length = n ∧ ∀ i, i < n → w.cell? ⟨b, off + i, none⟩ = some (.int .i64 (intAt l i))
  | 0, _ => ⟨[], rfl, fun i hi => by omega⟩
  | n + 1, h => by
    obtain ⟨l, hl, hi⟩ := ints_list n (fun i hi => h i (by omega))
    obtain ⟨e, he⟩ := h n (by omega)
    refine ⟨l ++ [e], by simp [hl], fun i hi' => ?_⟩
    by_cases hin : i < n
    · have : intAt (l ++ [e]) i = intAt l i := by unfold intAt; simp [List.getElem?_append_left (by omega : i < l.length)]
      rw [this]; exact hi i hin
    · have : intAt (l ++ [e]) i = e := by unfold intAt; simp [show i = l.length by omega]
      rw [this, show i = n by omega]; exact he
set_option maxRecDepth 100000 in
theorem open_ints' {H : Type} {enc : TypeId × Value → H} {w : World} {b0 : Nat} {spare : Nat → Bool} {held : Bool} {r : Reach} {v : Value} {d : DataW H} {p : List MemPlace}
    (hv : Value.okWide Tryz.prog w r b0 36 v) (h : DataW.Trod enc Tryz.prog w 0 spare held 36 v d p) : ∃ l : List Int, IsI w v l := by
  obtain ⟨a0, len, cap, rfl⟩ := okWide_slice Tryz.underlying36 hv
  obtain ⟨fuel, hf⟩ := h
  rcases DataW.trod_slice Tryz.underlying36 hf with ⟨hcs, _⟩ | ⟨a, len', cap', elems, rest, n, _, hcs, _, hb, hl, hm, hlen, hel, _, _⟩
  · simp [Value.cells] at hcs
    obtain ⟨rfl, rfl, rfl⟩ := hcs
    exact ⟨[], _, _, rfl, Nat.le_refl _, by unfold maxLen; omega, .inl rfl⟩
  · simp [Value.cells] at hcs
    obtain ⟨rfl, rfl, rfl⟩ := hcs
    by_cases h0 : len = 0
    · subst h0
      exact ⟨[], _, _, rfl, hl, hm, .inl rfl⟩
    · obtain ⟨b, off, spot⟩ := a
      have hs : spot = none := by
        have h1 := hel 0 (by omega)
        rw [cells3, List.getElem?_eq_getElem (by omega)] at h1
        obtain ⟨cs, hc, ht⟩ := Option.bind_eq_some_iff.1 h1
        obtain ⟨t, rfl, _⟩ := DataW.trod_int Tryz.underlying3 ht
        have c0 := (World.cells?_some hc).2.2 0 (by omega)
        simpa [Addr.add] using World.cell?_spot c0
      subst hs
      have each : ∀ i, i < len → ∃ z : Int, w.cell? ⟨b, off + i, none⟩ = some (.int .i64 z) ∧ b < w.heap.size := by
        intro i hi
        have h1 := hel i hi
        rw [cells3, List.getElem?_eq_getElem (by omega), add_plain] at h1
        obtain ⟨cs, hc, ht⟩ := Option.bind_eq_some_iff.1 h1
        obtain ⟨t, rfl, _, hw⟩ := DataW.trod_int Tryz.underlying3 ht
        have hblk : b < w.heap.size := World.cells?_block hc (by omega)
        obtain ⟨_, _, hcell⟩ := World.cells?_some hc
        have h2 := hcell 0 (by omega)
        simp only [add_plain] at h2
        exact ⟨t, by simpa using h2, hblk⟩
      obtain ⟨_, _, hblk⟩ := each 0 (by omega)
      obtain ⟨l, rfl, hi⟩ := ints_list (w := w) (b := b) (off := off) len (fun i hi => by
        obtain ⟨e, he, _⟩ := each i hi
        exact ⟨e, he⟩)
      exact ⟨l, _, _, rfl, hl, hm, .inr ⟨b, off, rfl, hblk, hi⟩⟩
end Go.Proofs.YtkdmdcahnifjpaaGreat

/- How an event that came in is read: seven integers. -/
namespace Go.Proofs.YtkdmdcahnifjpaaGreat
open Go.ChangeShapes Go.WideShapes Go.ChangeAt Go.RowKit

def wfI (x : Int) : Prop := (Lit.int .i64 x).wf = true

theorem list7 {α : Type} {l : List α} (h : l.length = 7) : ∃ a b c d e f g, l = [a, b, c, d, e, f, g] := by
  match l, h with
  | [a, b, c, d, e, f, g], _ => exact ⟨a, b, c, d, e, f, g, rfl⟩

end Go.Proofs.YtkdmdcahnifjpaaGreat

/- An argument that is a command, opened. -/
namespace Go.Proofs.YtkdmdcahnifjpaaGreat
open Go.ChangeShapes Go.WideShapes Go.ChangeAt Go.RowKit
theorem cellsCmd : Tryz.prog.cellsOf 23 = 4 := by kernel_rfl
theorem list4 {α : Type} {l : List α} (h : l.length = 4) : ∃ a b c d, l = [a, b, c, d] := by
  match l, h with
  | [a, b, c, d], _ => exact ⟨a, b, c, d, rfl⟩
set_option maxRecDepth 100000 in
theorem trod_cmd {H : Type} {enc : TypeId × Value → H} {w : World} {base : Nat} {spare : Nat → Bool} {held : Bool} {fuel : Nat} {cs : List Value} {x : DataW H × List MemPlace}
    (h : DataW.trod enc Tryz.prog w base spare held fuel 23 cs = some x) : ∃ c a b k : Int, cs = [.int .i64 c, .int .i64 a, .int .i64 b, .int .i64 k] ∧ wfI c ∧ wfI a ∧ wfI b ∧ wfI k := by
  obtain ⟨xs, n, _, rfl, hl, hlen, hf⟩ := DataW.trod_struct Tryz.underlying23 h
  rw [cellsCmd] at hl
  obtain ⟨c0, c1, c2, c3, rfl⟩ := list4 hl
  have hx : xs.length = 4 := by simpa using hlen
  obtain ⟨y0, y1, y2, y3, rfl⟩ := list4 hx
  have h0 := hf 0 _ rfl
  have h1 := hf 1 _ rfl
  have h2 := hf 2 _ rfl
  have h3 := hf 3 _ rfl
  obtain ⟨a0, e0, _, w0⟩ := DataW.trod_int Tryz.underlying3 h0
  obtain ⟨a1, e1, _, w1⟩ := DataW.trod_int Tryz.underlying3 h1
  obtain ⟨a2, e2, _, w2⟩ := DataW.trod_int Tryz.underlying3 h2
  obtain ⟨a3, e3, _, w3⟩ := DataW.trod_int Tryz.underlying3 h3
  simp [cells3] at e0 e1 e2 e3
  subst e0 e1 e2 e3
  exact ⟨a0, a1, a2, a3, rfl, w0, w1, w2, w3⟩
set_option maxRecDepth 100000 in
theorem open_cmd {H : Type} {enc : TypeId × Value → H} {w : World} {base b0 : Nat} {spare : Nat → Bool} {held : Bool} {r : Reach} {v : Value} {d : DataW H} {p : List MemPlace}
    (hv : Value.okWide Tryz.prog w r b0 23 v) (h : DataW.Trod enc Tryz.prog w base spare held 23 v d p) :
    ∃ c a b k : Int, v = .agg #[.int .i64 c, .int .i64 a, .int .i64 b, .int .i64 k] ∧ wfI c ∧ wfI a ∧ wfI b ∧ wfI k := by
  obtain ⟨cs, rfl, hsz⟩ := okWide_struct Tryz.underlying23 hv
  obtain ⟨fuel, hf⟩ := h
  obtain ⟨c, a, b, k, e, hw⟩ := trod_cmd hf
  refine ⟨c, a, b, k, ?_, hw⟩
  rw [show cs = #[.int .i64 c, .int .i64 a, .int .i64 b, .int .i64 k] from by
    apply Array.toList_inj.1
    simpa [Value.cells] using e]
end Go.Proofs.YtkdmdcahnifjpaaGreat

