/- Differ, Has, Rowed, SwapS -/
import Derived.Test.YteecpandpkicmaaDoorOrdersCardG07
import Derived.Test.YteecpandpkicmaaDoorOrdersCardLCmpI
import Derived.Maps.OwnSet
import Derived.Test.YteecpandpkicmaaDoorOrdersCardG01
import Derived.Test.YteecpandpkicmaaDoorOrdersCardG00
import Derived.Laws.OwnMore
import Derived.WalkSmall
/- The program's tagsDiffer. -/
namespace Go.Proofs.YteecpandpkicmaaDoor
open Go.RowKit Go.Maps Go.WideShapes

theorem finRange_all (n : Nat) : (List.finRange n).take n = List.finRange n := List.take_of_length_le (by simp)
set_option maxHeartbeats 1000000 in
theorem tagsDiffer_any (a : Option Addr) (cap b : Nat) (l : List Ev) (w : World) (hl : l.length ≤ 1048576) (hI : l = [] ∨ ∃ off, a = some ⟨b, off, none⟩ ∧ EvsAt w b off l) (hb : b < w.heap.size) (hwf : ∀ i, i < l.length → wfI (evAt l i).g) :
    Calls Tryd.prog 35 #[.slice a l.length cap] w fun e w' => Says e (∀ i, i < l.length → ∀ j, j < i → (evAt l j).g ≠ (evAt l i).g) ∧ Below w.heap.size w w' := by
  have HP : Hid (PlacesAt l l.length) := placesAt l hwf l.length (Nat.le_refl _)
  have HC := places_any (H := Unit) a cap b l w hl hI hb hwf
  have HC' : Hid (Calls Tryd.prog 29 #[.slice a l.length cap] w fun e W' => e = .returned (.map (some w.heap.size)) ∧ W'.ownsMap Tryd.prog 24 (plainElem (H := Unit) Tryd.prog 3) w.heap.size l.length (placesD l (List.finRange l.length)) ∧ Below w.heap.size w W') := HC
  clear HC hI hwf
  go_enter Tryd.func35, Tryd.ntmps35
  go_wp2_with fail
  refine HC'.out.mono ?_
  rintro e w1 ⟨rfl, hown, hb1⟩
  have hD := placesD_isMap l l.length (Nat.le_refl _)
  rw [finRange_all] at hD
  have hrun := hown.len Tryd.underlying58 3
  rw [hD] at hrun
  have hm : (Maps.size (.map (placesE l l.length) : DataW Unit) : Int) = ((placesE l l.length).length : Int) := rfl
  rw [hm] at hrun
  generalize hn : (placesE l l.length).length = n at hrun
  have HN : Hid ((placesE l l.length).length = n) := hn
  clear hown hD hn hm
  go_wp2
  go_ret
  refine ⟨?_, hb1⟩
  have hiff := HP.out.iff
  rw [HN.out] at hiff
  refine ⟨_, rfl, ?_⟩
  rw [← hiff]
  simp
  omega

theorem okB_tag {t s q d k v g : Int} (h : okB t s q d k v g = true) : wfI g := by
  simp only [okB, decide_eq_true_eq] at h
  exact WalkArith.wf_i64 (by omega)
theorem IsEvs.parts {w : World} {x : Value} {l : List Ev} (h : IsEvs w x l) (hw : 0 < w.heap.size) : ∃ a cap b, x = .slice a l.length cap ∧ b < w.heap.size ∧ (l = [] ∨ ∃ off, a = some ⟨b, off, none⟩ ∧ EvsAt w b off l) := by
  obtain ⟨a, cap, rfl, _, _, h⟩ := h
  rcases h with h | ⟨b, off, rfl, h⟩
  · exact ⟨a, cap, 0, rfl, hw, .inl h⟩
  · exact ⟨_, cap, b, rfl, h.1, .inr ⟨off, rfl, h⟩⟩
theorem parts_below {w w' : World} {a : Option Addr} {b : Nat} {l : List Ev} (h : l = [] ∨ ∃ off, a = some ⟨b, off, none⟩ ∧ EvsAt w b off l) (hb : b < w.heap.size) (hB : Below w.heap.size w w') : l = [] ∨ ∃ off, a = some ⟨b, off, none⟩ ∧ EvsAt w' b off l :=
  h.imp id (fun ⟨off, e, h⟩ => ⟨off, e, h.below hB hb⟩)

end Go.Proofs.YteecpandpkicmaaDoor

/- What the map from tags to places has. -/
namespace Go.Proofs.YteecpandpkicmaaDoor
open Go.RowKit Go.Maps Go.WideShapes

theorem has_no {l : List Ev} {tag : Int} (hw : ∀ i, i < l.length → wfI (evAt l i).g) (ht : wfI tag) (h : NoTag l tag) : Maps.has (placesD (H := Unit) l (List.finRange l.length)) (keyL tag) = false := by
  have hD := placesD_isMap l l.length (Nat.le_refl _)
  rw [finRange_all] at hD
  rw [hD]
  unfold Maps.has
  simp only [List.any_eq_false]
  intro p hp
  obtain ⟨i, hi, rfl, _⟩ := (placesAt l hw l.length (Nat.le_refl _)).ent p hp
  rw [sameKey_keyL (hw i hi) ht]
  simpa using h i hi
theorem has_yes {l : List Ev} {tag : Int} {i : Nat} (hw : ∀ i, i < l.length → wfI (evAt l i).g) (ht : wfI tag) (hd : ∀ i, i < l.length → ∀ j, j < i → (evAt l j).g ≠ (evAt l i).g) (h : FirstAt l tag i) :
    Maps.has (placesD (H := Unit) l (List.finRange l.length)) (keyL tag) = true ∧ ∀ c : Int, (placesD (H := Unit) l (List.finRange l.length)).atKey (keyL tag) (.lit (.int .i64 0)) = .lit (.int .i64 c) → c = (i : Int) := by
  have hD := placesD_isMap l l.length (Nat.le_refl _)
  rw [finRange_all] at hD
  rw [hD]
  have P := placesAt l hw l.length (Nat.le_refl _)
  obtain ⟨hi, hg, _⟩ := h
  obtain ⟨p, hp, he⟩ := P.has i hi
  have hs : p.1.sameKey (keyL tag) = true := by rw [he, sameKey_keyL (hw i hi) ht]; simpa using hg
  refine ⟨?_, ?_⟩
  · unfold Maps.has
    simp only [List.any_eq_true]
    exact ⟨p, hp, hs⟩
  · intro c hc
    simp only [DataW.atKey] at hc
    cases hf : (placesE l l.length).find? (fun p => p.1.sameKey (keyL tag)) with
    | none => exact absurd hs (by simpa using List.find?_eq_none.1 hf p hp)
    | some q =>
      rw [hf] at hc
      have hq := List.find?_some hf
      obtain ⟨j, hj, rfl, _⟩ := P.ent q (List.mem_of_find?_eq_some hf)
      simp only [sameKey_keyL (hw j hj) ht, decide_eq_true_eq] at hq
      have hij : j = i := by
        rcases Nat.lt_trichotomy j i with h1 | h1 | h1
        · exact absurd (hq.trans hg.symm) (hd i hi j h1)
        · exact h1
        · exact absurd (hg.trans hq.symm) (hd j hj i h1)
      simp only [litI] at hc
      injection hc with h1
      injection h1 with _ h2
      rw [← h2, hij]

end Go.Proofs.YteecpandpkicmaaDoor

/- A row of events of one's own, whose places are written; what turns beside it. -/
namespace Go.Proofs.YteecpandpkicmaaDoor
open Go.RowKit

def Row (w : World) (B g cap : Nat) (l : List Ev) : Prop := w.ownsRow B 24 7 (.slice (some ⟨g, 0, none⟩) l.length cap) l.length (cellsL l)
theorem cellsL_set : ∀ (l : List Ev) (i : Nat) (e : Ev), i < l.length →
    (((((((cellsL l).set (i * 7) (.int .i64 e.t)).set (i * 7 + 1) (.int .i64 e.s)).set (i * 7 + 2) (.int .i64 e.q)).set (i * 7 + 3) (.int .i64 e.d)).set (i * 7 + 4) (.int .i64 e.k)).set (i * 7 + 5) (.int .i64 e.v)).set (i * 7 + 6) (.int .i64 e.g) = cellsL (l.set i e)
  | [], _, _, h => by simp at h
  | a :: l, 0, e, _ => by simp [cellsL, Ev.cs]
  | a :: l, i + 1, e, h => by
    have ih := cellsL_set l i e (by simpa using h)
    have hk0 : (i + 1) * 7 = i * 7 + 1 + 1 + 1 + 1 + 1 + 1 + 1 := by omega
    simp only [cellsL, Ev.cs, List.cons_append, List.nil_append, List.set_cons_succ, hk0, ih]
theorem Row.put {w : World} {B g cap : Nat} {l : List Ev} (h : Row w B g cap l) {i : Nat} (hi : i < l.length) (e : Ev) : Row (put7 w g (i * 7) e) B g cap (l.set i e) := by
  have h0 := (World.ownsRow.stored h (i * 7) (.int .i64 e.t)).1
  have h1 := (World.ownsRow.stored h0 (i * 7 + 1) (.int .i64 e.s)).1
  have h2 := (World.ownsRow.stored h1 (i * 7 + 2) (.int .i64 e.q)).1
  have h3 := (World.ownsRow.stored h2 (i * 7 + 3) (.int .i64 e.d)).1
  have h4 := (World.ownsRow.stored h3 (i * 7 + 4) (.int .i64 e.k)).1
  have h5 := (World.ownsRow.stored h4 (i * 7 + 5) (.int .i64 e.v)).1
  have h6 := (World.ownsRow.stored h5 (i * 7 + 6) (.int .i64 e.g)).1
  unfold Row
  rw [List.length_set, ← cellsL_set l i e hi]
  exact h6
theorem Row.lt {w : World} {B g cap : Nat} {l : List Ev} (h : Row w B g cap l) : B ≤ g ∧ g < w.heap.size := World.ownsRow.lt h g rfl
theorem Row.caps {w : World} {B g cap : Nat} {l : List Ev} (h : Row w B g cap l) : l.length ≤ cap ∧ cap ≤ maxLen := by
  obtain ⟨_, ⟨h, _⟩ | ⟨g', cap', cur, e, _, _, h1, h2, _⟩⟩ := h
  · cases h
  · cases e; exact ⟨h1, h2⟩
theorem Row.ev {w : World} {B g cap : Nat} {l : List Ev} (h : Row w B g cap l) {i : Nat} (hi : i < l.length) : Ev.In w g (i * 7) (evAt l i) := by
  have hget : ∀ r, r < 7 → w.cell? ⟨g, i * 7 + r, none⟩ = (evAt l i).cs[r]? := fun r hr => by
    rw [World.ownsRow.cellAt h (i * 7 + r) (by omega), cellsL_get l i r hi hr]
  exact ⟨hget 0 (by omega), hget 1 (by omega), hget 2 (by omega), hget 3 (by omega), hget 4 (by omega), hget 5 (by omega), hget 6 (by omega)⟩
theorem Row.frozen {w : World} {B g cap : Nat} {l : List Ev} (h : Row w B g cap l) (j : Nat) : w.frozen? ⟨g, j, none⟩ = false := World.ownsRow.frozenAt h j
theorem Row.evs {w : World} {B g cap : Nat} {l : List Ev} (h : Row w B g cap l) : EvsAt w g 0 l := ⟨h.lt.2, fun i hi => by rw [Nat.zero_add]; exact h.ev hi⟩
theorem Row.same {w w' : World} {B g cap : Nat} {l : List Ev} (h : Row w B g cap l) (hb : w'.heap[g]? = w.heap[g]?) : Row w' B g cap l := by
  obtain ⟨h0, ⟨h, _⟩ | ⟨g', cap', cur, e, hg, hc, h1, h2, h3, h4⟩⟩ := h
  · cases h
  · cases e; exact ⟨h0, .inr ⟨g, cap, cur, rfl, hg, hb.trans hc, h1, h2, h3, h4⟩⟩
theorem Row.below {w w' : World} {B B' g cap : Nat} {l : List Ev} (h : Row w B g cap l) (hb : Below B' w w') (hB : g < B') : Row w' B g cap l := h.same (hb.block g hB)
theorem Row.base {w : World} {B B' g cap : Nat} {l : List Ev} (h : Row w B g cap l) (hB : B' ≤ g) : Row w B' g cap l := by
  obtain ⟨h0, ⟨h, _⟩ | ⟨g', cap', cur, e, hg, hc, h1, h2, h3, h4⟩⟩ := h
  · cases h
  · cases e; exact ⟨h0, .inr ⟨g, cap, cur, rfl, hB, hc, h1, h2, h3, h4⟩⟩
theorem Row.own {w : World} {B g cap : Nat} {l : List Ev} (h : Row w B g cap l) : OwnEvs B w (.slice (some ⟨g, 0, none⟩) l.length cap) l := OwnEvs.of_row h
theorem Row.drew {w : World} {B g cap : Nat} {l : List Ev} (h : Row w B g cap l) : Row w.drew B g cap l := World.ownsRow.drew h
theorem Row.pop {w : World} {B g cap : Nat} {l : List Ev} {e : Ev} (h : Row w B g cap (l ++ [e])) : Row w B g cap l := by
  unfold Row at h
  rw [List.length_append, List.length_singleton, cellsL_append] at h
  exact ownsRow_pop (cellsL_length l) h

/- All blocks but those of S stay as they were. -/
theorem Turns.put {S : Nat → Prop} {a w : World} (h : Turns S a w) {g : Nat} (hg : S g) (o : Nat) (e : Ev) : Turns S a (put7 w g o e) :=
  ((((((h.setCell (p := ⟨g, o, none⟩) hg _).setCell (p := ⟨g, o + 1, none⟩) hg _).setCell (p := ⟨g, o + 2, none⟩) hg _).setCell (p := ⟨g, o + 3, none⟩) hg _).setCell (p := ⟨g, o + 4, none⟩) hg _).setCell (p := ⟨g, o + 5, none⟩) hg _).setCell (p := ⟨g, o + 6, none⟩) hg _
theorem Turns.row {S : Nat → Prop} {w w' : World} (h : Turns S w w') {B g cap : Nat} {l : List Ev} (hr : Row w B g cap l) (hg : ¬ S g) : Row w' B g cap l := hr.same (h.block g hr.lt.2 hg)
end Go.Proofs.YteecpandpkicmaaDoor

/- The specification's l0swap. -/
namespace Go.Proofs.YteecpandpkicmaaDoor
open Go.RowKit
theorem Row.cells7 {w : World} {B g cap : Nat} {l : List Ev} (h : Row w B g cap l) {i : Nat} (hi : i < l.length) :
    (w.cell? ⟨g, i * 7, none⟩ = some (.int .i64 (evAt l i).t) ∧ w.cell? ⟨g, i * 7 + 1, none⟩ = some (.int .i64 (evAt l i).s) ∧ w.cell? ⟨g, i * 7 + 2, none⟩ = some (.int .i64 (evAt l i).q) ∧ w.cell? ⟨g, i * 7 + 3, none⟩ = some (.int .i64 (evAt l i).d) ∧ w.cell? ⟨g, i * 7 + 4, none⟩ = some (.int .i64 (evAt l i).k) ∧ w.cell? ⟨g, i * 7 + 5, none⟩ = some (.int .i64 (evAt l i).v) ∧ w.cell? ⟨g, i * 7 + 6, none⟩ = some (.int .i64 (evAt l i).g)) ∧
    (w.frozen? ⟨g, i * 7, none⟩ = false ∧ w.frozen? ⟨g, i * 7 + 1, none⟩ = false ∧ w.frozen? ⟨g, i * 7 + 2, none⟩ = false ∧ w.frozen? ⟨g, i * 7 + 3, none⟩ = false ∧ w.frozen? ⟨g, i * 7 + 4, none⟩ = false ∧ w.frozen? ⟨g, i * 7 + 5, none⟩ = false ∧ w.frozen? ⟨g, i * 7 + 6, none⟩ = false) :=
  ⟨⟨(h.ev hi).f0, (h.ev hi).f1, (h.ev hi).f2, (h.ev hi).f3, (h.ev hi).f4, (h.ev hi).f5, (h.ev hi).f6⟩, ⟨h.frozen _, h.frozen _, h.frozen _, h.frozen _, h.frozen _, h.frozen _, h.frozen _⟩⟩
theorem Row.swap {w : World} {B g cap : Nat} {l : List Ev} (h : Row w B g cap l) {i k : Nat} (hi : i < l.length) (hk : k < l.length) : Row (put7 (put7 w g (i * 7) (evAt l k)) g (k * 7) (evAt l i)) B g cap (swp l i k) :=
  (h.put hi (evAt l k)).put (by simpa using hk) (evAt l i)

end Go.Proofs.YteecpandpkicmaaDoor

