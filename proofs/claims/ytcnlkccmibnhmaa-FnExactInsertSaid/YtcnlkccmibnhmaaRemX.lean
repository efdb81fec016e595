/- The specification's Remove; both give the same. -/
import Derived.Test.YtcnlkccmibnhmaaRemI
import Derived.Test.YtcnlkccmibnhmaaMarks
namespace Go.Proofs.Ytcnlkccmibnhmaa
open Go.RowKit

/- What the two functions of this kind answer: a list of one's own and a flag. -/
def Answers (B : Nat) (l' : List Ev) (bb : Bool) (e : Ending) (w' : World) : Prop := ∃ x, e = .returned (.tuple #[x, .bool bb]) ∧ OwnEvs B w' x l'
theorem OwnEvs.nil (B : Nat) (w : World) : OwnEvs B w (.slice none 0 0) [] := ⟨none, 0, rfl, Nat.le_refl _, by unfold maxLen; omega, .inl rfl⟩
theorem OwnEvs.mono {B B' : Nat} {w : World} {x : Value} {l : List Ev} (h : OwnEvs B w x l) (hB : B' ≤ B) : OwnEvs B' w x l := by
  obtain ⟨a, cap, e, h1, h2, h⟩ := h
  exact ⟨a, cap, e, h1, h2, h.imp id (fun ⟨g, e, hg, hr⟩ => ⟨g, e, Nat.le_trans hB hg, hr⟩)⟩

set_option maxHeartbeats 2000000 in
theorem sRemove_any (b off : Nat) (l : List Ev) (tag : Int) (w : World) (hl : l.length ≤ 1048576) (hI : EvsAt w b off l) :
    Calls Try.prog 23 #[.slice (some ⟨b, off, none⟩) l.length l.length, .int .i64 tag] w fun e w' =>
      ((¬ GoodQ l ∧ Answers w.heap.size [] false e w') ∨ (GoodQ l ∧ NoTag l tag ∧ Answers w.heap.size l false e w') ∨ (∃ k, GoodQ l ∧ FirstAt l tag k ∧ Answers w.heap.size (l.take k ++ l.drop (k + 1)) true e w')) ∧ Below w.heap.size w w' := by
  have hm : l.length ≤ maxLen := by unfold maxLen; omega
  have HI : Hid (EvsAt w b off l) := hI
  have hb := hI.1
  clear hI
  go_enter Try.func23, Try.ntmps23
  go_wp2_with fail
  refine (sQueue_any _ l _ hl ⟨_, _, rfl, Nat.le_refl _, hm, .inr ⟨b, off, rfl, HI.out⟩⟩).mono ?_
  rintro e w1 ⟨⟨bb, rfl, hs⟩, hb1⟩
  have HS : Hid (bb = true ↔ GoodQ l) := hs
  have HB1 : Hid (Below w.heap.size w w1) := hb1
  have HI1 : Hid (EvsAt w1 b off l) := HI.out.below hb1 hb
  clear hs hb1
  cases bb
  · have HG : Hid (¬ GoodQ l) := fun h => by have := HS.out.2 h; cases this
    clear HS
    go_wp2
    go_ret2
    exact ⟨.inl ⟨HG.out, _, rfl, OwnEvs.nil _ _⟩, HB1.out⟩
  · have HG : Hid (GoodQ l) := HS.out.1 rfl
    clear HS
    go_wp2_with fail
    refine (find_any b off _ l tag _ hl HI1.out).mono ?_
    rintro e w2 ⟨hcase, hw⟩
    have hw' := hw.symm
    clear hw
    subst hw'
    rcases hcase with ⟨k, rfl, hk⟩ | ⟨rfl, hno⟩
    · have HK : Hid (FirstAt l tag k) := hk
      have hk0 : k < l.length := hk.1
      have hk1 : ¬ ((k : Int) < 0) := by omega
      clear hk
      go_wp2_with fail
      refine (remove_any b off l k _ hl hk0 HI1.out).mono ?_
      rintro e w3 ⟨x, rfl, hx, hb3⟩
      have HX : Hid (OwnEvs w1.heap.size w3 x (l.take k ++ l.drop (k + 1))) := hx
      clear hx
      go_wp2
      go_ret2
      exact ⟨.inr (.inr ⟨k, HG.out, HK.out, x, rfl, HX.out.mono HB1.out.size⟩), HB1.out.trans (hb3.mono HB1.out.size)⟩
    · have HK : Hid (NoTag l tag) := hno
      clear hno
      go_wp2_with fail
      refine (own_any b off _ l _ hl HI1.out).mono ?_
      rintro e w3 ⟨x, rfl, hx, hb3⟩
      have HX : Hid (OwnEvs w1.heap.size w3 x l) := hx
      clear hx
      go_wp2
      go_ret2
      exact ⟨.inr (.inl ⟨HG.out, HK.out, x, rfl, HX.out.mono HB1.out.size⟩), HB1.out.trans (hb3.mono HB1.out.size)⟩

theorem firstAt_unique {l : List Ev} {tag : Int} {i j : Nat} (h : FirstAt l tag i) (h' : FirstAt l tag j) : i = j := by
  rcases Nat.lt_trichotomy i j with h1 | h1 | h1
  · exact absurd h.2.1 (h'.2.2 i h1)
  · exact h1
  · exact absurd h'.2.1 (h.2.2 j h1)

theorem remove_same (l : List Ev) (tag : Int) (hl : l.length ≤ 1048576) (ht : wfI tag) : ∃ (l' : List Ev) (bb : Bool), l'.length ≤ 1048577 ∧
    (∀ (w : World) (g : Nat), RowTo w g l.length l l.length → Calls Try.prog 23 #[.slice (some ⟨g, 0, none⟩) l.length l.length, .int .i64 tag] w fun e w' => Answers w.heap.size l' bb e w' ∧ Below w.heap.size w w') ∧
    (∀ (w : World) (g : Nat), RowTo w g l.length l l.length → Calls Try.prog 24 #[.slice (some ⟨g, 0, none⟩) l.length l.length, .int .i64 tag] w fun e w' => Answers w.heap.size l' bb e w' ∧ Below w.heap.size w w') := by
  by_cases hg : GoodQ l
  · rcases firstAt_or l tag with ⟨k, hk⟩ | hno
    · refine ⟨l.take k ++ l.drop (k + 1), true, by simp; omega, fun w g h => (sRemove_any g 0 l tag w hl h.evs).mono ?_, fun w g h => (iRemove_some g 0 l tag k w hl h.evs hg ht hk).mono ?_⟩
      · rintro e w' ⟨h1 | ⟨_, h1, _⟩ | ⟨j, _, h1, h2⟩, hb⟩
        · exact (h1.1 hg).elim
        · exact (h1 k hk.1 hk.2.1).elim
        · rw [firstAt_unique hk h1]; exact ⟨h2, hb⟩
      · rintro e w' ⟨x, h1, h2, hb⟩
        exact ⟨⟨x, h1, h2⟩, hb⟩
    · refine ⟨l, false, by omega, fun w g h => (sRemove_any g 0 l tag w hl h.evs).mono ?_, fun w g h => (iRemove_none g 0 l tag w hl h.evs hg ht hno).mono ?_⟩
      · rintro e w' ⟨h1 | ⟨_, _, h1⟩ | ⟨j, _, h1, h2⟩, hb⟩
        · exact (h1.1 hg).elim
        · exact ⟨h1, hb⟩
        · exact (hno j h1.1 h1.2.1).elim
      · rintro e w' ⟨x, h1, h2, hb⟩
        exact ⟨⟨x, h1, h2⟩, hb⟩
  · refine ⟨[], false, by simp, fun w g h => (sRemove_any g 0 l tag w hl h.evs).mono ?_, fun w g h => (iRemove_bad g 0 l tag w hl h.evs hg).mono ?_⟩
    · rintro e w' ⟨h1 | ⟨h1, _⟩ | ⟨j, h1, _⟩, hb⟩
      · exact ⟨h1.2, hb⟩
      · exact (hg h1).elim
      · exact (hg h1).elim
    · rintro e w' ⟨rfl, hb⟩
      exact ⟨⟨_, rfl, OwnEvs.nil _ _⟩, hb⟩
end Go.Proofs.Ytcnlkccmibnhmaa
