/- Lists that are read, nil or not; the copies of both sides, as rows of one's own. -/
import Derived.Test.YteecpandpkicmaaSortsG18
import Derived.Laws.AppendOwnNone
namespace Go.Proofs.Yteecpandpkicmaa
open Go.RowKit
def Src (w : World) (x : Value) (l : List Ev) : Prop := (x = .slice none 0 0 ∧ l = []) ∨ ∃ b off cap, x = .slice (some ⟨b, off, none⟩) l.length cap ∧ EvsAt w b off l
def OwnR (B : Nat) (w : World) (x : Value) (l : List Ev) : Prop := w.ownsRow B 25 7 x l.length (cellsL l)
theorem Src.below {w w' : World} {x : Value} {l : List Ev} (h : Src w x l) (hb : Below w.heap.size w w') : Src w' x l :=
  h.imp id (fun ⟨b, off, cap, e, h⟩ => ⟨b, off, cap, e, h.below hb h.1⟩)
theorem OwnR.src {B : Nat} {w : World} {x : Value} {l : List Ev} (h : OwnR B w x l) : Src w x l := by
  have h' := h
  obtain ⟨_, ⟨e, h0⟩ | ⟨g, cap, cur, rfl, h1⟩⟩ := h
  · exact .inl ⟨e, List.eq_nil_of_length_eq_zero h0⟩
  · exact .inr ⟨g, 0, cap, rfl, Row.evs h'⟩
theorem OwnR.own {B : Nat} {w : World} {x : Value} {l : List Ev} (h : OwnR B w x l) : OwnEvs B w x l := OwnEvs.of_row h
theorem OwnR.rowed {B : Nat} {w : World} {x : Value} {l : List Ev} (h : OwnR B w x l) {n : Nat} (hl : l.length = n + 1) : ∃ g cap, x = .slice (some ⟨g, 0, none⟩) (n + 1) cap ∧ Row w B g cap l := by
  have h' := h
  obtain ⟨_, ⟨e, h0⟩ | ⟨g, cap, cur, rfl, h1⟩⟩ := h
  · omega
  · exact ⟨g, cap, by rw [hl], h'⟩
theorem OwnR.below {B : Nat} {w w' : World} {x : Value} {l : List Ev} (h : OwnR B w x l) (hb : Below w.heap.size w w') : OwnR B w' x l := by
  obtain ⟨h0, ⟨e, h1⟩ | ⟨g, cap, cur, e, hg, hc, h1⟩⟩ := h
  · exact ⟨h0, .inl ⟨e, h1⟩⟩
  · exact ⟨h0, .inr ⟨g, cap, cur, e, hg, (hb.block g (Array.getElem?_eq_some_iff.1 hc).1).trans hc, h1⟩⟩
theorem OwnR.mono {B B' : Nat} {w : World} {x : Value} {l : List Ev} (h : OwnR B w x l) (hB : B' ≤ B) : OwnR B' w x l := by
  obtain ⟨h0, ⟨e, h1⟩ | ⟨g, cap, cur, e, hg, h1⟩⟩ := h
  · exact ⟨h0, .inl ⟨e, h1⟩⟩
  · exact ⟨h0, .inr ⟨g, cap, cur, e, Nat.le_trans hB hg, h1⟩⟩
theorem OwnR.nil (B : Nat) (w : World) : OwnR B w (.slice none 0 0) [] := World.ownsRow_nil w B _ 7
theorem OwnR.evs {B : Nat} {w : World} {x : Value} {l : List Ev} (h : OwnR B w x l) : IsEvs w x l := h.own.isEvs
theorem RowTo.src {w : World} {g : Nat} {l : List Ev} (h : RowTo w g l.length l l.length) : Src w (.slice (some ⟨g, 0, none⟩) l.length l.length) l := .inr ⟨g, 0, _, rfl, h.evs⟩

set_option maxHeartbeats 1000000 in
theorem copy_row (x : Value) (l : List Ev) (w : World) (hl : l.length ≤ 1048577) (hI : Src w x l) :
    Calls Try.prog 31 #[x] w fun e w' => ∃ y, e = .returned y ∧ OwnR w.heap.size w' y l ∧ Below w.heap.size w w' := by
  obtain ⟨i0, hi, hz0, hz1, hz2⟩ := info_parts info25
  rcases hI with ⟨rfl, rfl⟩ | ⟨b, off, cap, rfl, hI⟩
  · go_enter Try.func31, Try.ntmps31
    go_wp2_with (at_builtin; refine wpList_append_own_none rfl _ _ 23 rfl w.heap.size 25 i0 7 Try.underlying23 hi (.slice none 0 0) 0 [] rfl (World.ownsRow_nil w _ 25 7) rfl ?_)
    go_ret
    exact ⟨_, rfl, OwnR.nil _ _, Below.refl _ _⟩
  · have HI : Hid (EvsAt w b off l) := hI
    clear hI
    go_enter Try.func31, Try.ntmps31
    go_wp2_with (at_builtin; refine wpList_append_own _ rfl _ _ 23 rfl w.heap.size 25 i0 _ 7 56 Try.underlying23 hi hz0 hz1 hz2 rfl (by decide) (.slice none 0 0) 0 [] rfl (World.ownsRow_nil w _ 25 7) ⟨b, off, none⟩ l.length cap (cellsL l) rfl (cellsL_length l) HI.out.cells (cellsL_one l) (by unfold maxLen; omega) (by omega) (Nat.le_refl _) ?_; intro v' w1 hown hgrow hnil)
    go_ret
    exact ⟨_, rfl, by unfold OwnR; simpa using hown, (Below.refl _ w).grown hgrow (Nat.le_refl _) (fun k e => by cases e)⟩

set_option maxHeartbeats 1000000 in
theorem own_row (x : Value) (l : List Ev) (w : World) (hl : l.length ≤ 1048577) (hI : Src w x l) :
    Calls Try.prog 67 #[x] w fun e w' => ∃ y, e = .returned y ∧ OwnR w.heap.size w' y l ∧ Below w.heap.size w w' := by
  obtain ⟨i0, hi, hz0, hz1, hz2⟩ := info_parts info25
  rcases hI with ⟨rfl, rfl⟩ | ⟨b, off, cap, rfl, hI⟩
  · go_enter Try.func67, Try.ntmps67
    go_wp2_with (at_builtin; refine wpList_append_own_none rfl _ _ 23 rfl w.heap.size 25 i0 7 Try.underlying23 hi (.slice (some ⟨w.heap.size, 0, none⟩) 0 0) 0 [] rfl (row_empty w) rfl ?_)
    go_ret
    exact ⟨_, rfl, row_empty w, (Below.refl _ w).alloc (Nat.le_refl _) _⟩
  · have HI : Hid (EvsAt w b off l) := hI
    clear hI
    go_enter Try.func67, Try.ntmps67
    go_wp2_with (at_builtin; refine wpList_append_own _ rfl _ _ 23 rfl w.heap.size 25 i0 _ 7 56 Try.underlying23 hi hz0 hz1 hz2 rfl (by decide) (.slice (some ⟨w.heap.size, 0, none⟩) 0 0) 0 [] rfl (row_empty w) ⟨b, off, none⟩ l.length cap (cellsL l) rfl (cellsL_length l) (HI.out.below ((Below.refl _ w).alloc (Nat.le_refl _) _) HI.out.1).cells (cellsL_one l) (by unfold maxLen; omega) (by omega) (by simp) ?_; intro v' w1 hown hgrow hnil)
    go_ret
    exact ⟨_, rfl, by unfold OwnR; simpa using hown, ((Below.refl _ w).alloc (Nat.le_refl _) _).grown hgrow (by simp) (fun k e => by cases e; exact Nat.le_refl _)⟩

set_option maxHeartbeats 1000000 in
theorem pileOf_any (x : Value) (l : List Ev) (w : World) (hl : l.length ≤ 1048577) (hI : Src w x l) :
    Calls Try.prog 40 #[x] w fun e w' => ∃ P v, e = .returned (pv P) ∧ Pl w' w.heap.size P v l ∧ Below w.heap.size w w' := by
  have HI : Hid (Src w x l) := hI
  clear hI
  go_enter Try.func40, Try.ntmps40
  go_wp2_with fail
  refine (copy_row x l w hl HI.out).mono ?_
  rintro e w1 ⟨y, rfl, hy, hb⟩
  have HY : Hid (OwnR w.heap.size w1 y l) := hy
  obtain ⟨a, cap, rfl⟩ : ∃ a cap, y = .slice a l.length cap := by
    obtain ⟨_, ⟨e, h0⟩ | ⟨g, cap, cur, e, _⟩⟩ := hy
    · exact ⟨none, 0, by rw [e, h0]⟩
    · exact ⟨_, cap, e⟩
  clear hy
  go_wp2
  go_ret
  exact ⟨w1.heap.size, _, rfl, ⟨Boxed.new _ _ _, World.ownsRow.alloc HY.out _, hb.size⟩, hb.alloc hb.size _⟩

set_option maxHeartbeats 1000000 in
theorem events_any (B P : Nat) (v : Value) (l : List Ev) (w : World) (hl : l.length ≤ 1048577) (h : Pl w B P v l) :
    Calls Try.prog 91 #[.pointer (some ⟨P, 0, none⟩)] w fun e w' => ∃ y, e = .returned y ∧ OwnR w.heap.size w' y l ∧ Below w.heap.size w w' := by
  obtain ⟨a, cap, rfl, hm⟩ := h.slice
  have HI : Hid (Src w (.slice a l.length cap) l) := OwnR.src h.row
  have hcP := h.box.cell
  clear h
  go_enter Try.func91, Try.ntmps91
  go_wp2_with fail
  refine (copy_row _ l w hl HI.out).mono ?_
  rintro e w1 ⟨y, rfl, hy, hb⟩
  go_wp2
  go_ret
  exact ⟨_, rfl, hy, hb⟩
end Go.Proofs.Yteecpandpkicmaa
