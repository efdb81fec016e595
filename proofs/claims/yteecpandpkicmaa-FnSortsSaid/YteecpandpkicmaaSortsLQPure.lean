/- What follows of an event that is put into its place. -/
import Derived.Test.YteecpandpkicmaaSortsLOrd
import Derived.Test.YteecpandpkicmaaSortsG01
namespace Go.Proofs.Yteecpandpkicmaa
open Go.RowKit

def insL (l : List Ev) (e : Ev) (p : Nat) : List Ev := l.take p ++ e :: l.drop p
theorem insL_length (l : List Ev) (e : Ev) (p : Nat) (hp : p ≤ l.length) : (insL l e p).length = l.length + 1 := by simp [insL]; omega
theorem insL_lt (l : List Ev) (e : Ev) (p i : Nat) (hp : p ≤ l.length) (hi : i < p) : evAt (insL l e p) i = evAt l i := by
  unfold evAt insL
  simp [List.getElem?_append_left (by simp; omega : i < (l.take p).length), List.getElem?_take_of_lt hi]
theorem insL_eq (l : List Ev) (e : Ev) (p : Nat) (hp : p ≤ l.length) : evAt (insL l e p) p = e := by
  unfold evAt insL
  have h1 : (l.take p).length = p := by simp; omega
  simp [h1]
theorem insL_gt (l : List Ev) (e : Ev) (p i : Nat) (hp : p ≤ l.length) (hi : p < i) : evAt (insL l e p) i = evAt l (i - 1) := by
  unfold evAt insL
  have h1 : (l.take p).length = p := by simp; omega
  have h2 : i - p = (i - p - 1) + 1 := by omega
  have h3 : p + (i - p - 1) = i - 1 := by omega
  simp only [List.getD_eq_getElem?_getD]
  rw [List.getElem?_append_right (by omega), h1, h2, List.getElem?_cons_succ, List.getElem?_drop, h3]
theorem cmp_lt_iff (a b : Ev) : a.cmp b < 0 ↔ a.t < b.t ∨ (a.t = b.t ∧ (a.s < b.s ∨ (a.s = b.s ∧ (a.q < b.q ∨ (a.q = b.q ∧ a.g < b.g))))) := cmpI_lt _ _ _ _ _ _ _ _
theorem cmp_other {a b : Ev} (h : ¬ a.cmp b < 0) (hg : a.g ≠ b.g) : b.cmp a < 0 := by
  rw [cmp_lt_iff] at *
  omega
theorem cmp_self (a : Ev) : a.cmp a = 0 := by simp [Ev.cmp, cmpI, num]
theorem ins_good {l : List Ev} {e : Ev} {p : Nat} (hg : GoodQ l) (he : e.ok = true) (hno : NoTag l e.g) (hl : l.length < 2000) (hp : InsAt l e p) : GoodQ (insL l e p) := by
  obtain ⟨h1, h2, h3⟩ := hp
  refine ⟨by rw [insL_length _ _ _ h1]; omega, fun i hi => ?_⟩
  rw [insL_length _ _ _ h1] at hi
  rcases Nat.lt_trichotomy i p with h | h | h
  · obtain ⟨a, b, c⟩ := hg.2 i (by omega)
    unfold Good1
    rw [insL_lt _ _ _ _ h1 h]
    refine ⟨a, fun h0 => ?_, fun j hj => ?_⟩
    · rw [insL_lt _ _ _ _ h1 (by omega)]; exact b h0
    · rw [insL_lt _ _ _ _ h1 (by omega)]; exact c j hj
  · subst h
    unfold Good1
    rw [insL_eq _ _ _ h1]
    refine ⟨he, fun h0 => ?_, fun j hj => ?_⟩
    · rw [insL_lt _ _ _ _ h1 (by omega)]; exact h2 _ (by omega)
    · rw [insL_lt _ _ _ _ h1 hj]; exact hno j (by omega)
  · obtain ⟨a, b, c⟩ := hg.2 (i - 1) (by omega)
    unfold Good1
    rw [insL_gt _ _ _ _ h1 h]
    refine ⟨a, fun h0 => ?_, fun j hj => ?_⟩
    · by_cases h4 : i = p + 1
      · subst h4
        rw [show p + 1 - 1 = p from by omega, insL_eq _ _ _ h1]
        exact cmp_other (h3 (by omega)) (hno p (by omega))
      · rw [insL_gt _ _ _ _ h1 (by omega)]
        exact b (by omega)
    · rcases Nat.lt_trichotomy j p with h5 | h5 | h5
      · rw [insL_lt _ _ _ _ h1 h5]; exact c j (by omega)
      · subst h5
        rw [insL_eq _ _ _ h1]
        exact fun e' => hno (i - 1) (by omega) e'.symm
      · rw [insL_gt _ _ _ _ h1 h5]; exact c (j - 1) (by omega)
theorem ins_first {l : List Ev} {e : Ev} {p : Nat} (hno : NoTag l e.g) (hp : p ≤ l.length) : FirstAt (insL l e p) e.g p :=
  ⟨by rw [insL_length _ _ _ hp]; omega, by rw [insL_eq _ _ _ hp], fun j hj => by rw [insL_lt _ _ _ _ hp hj]; exact hno j (by omega)⟩
theorem ins_take (l : List Ev) (e : Ev) (p : Nat) (hp : p ≤ l.length) : (insL l e p).take p ++ (insL l e p).drop (p + 1) = l := by
  have h1 : (l.take p).length = p := by simp; omega
  have h2 : (insL l e p).take p = l.take p := by
    unfold insL
    rw [List.take_append_of_le_length (by omega), List.take_of_length_le (by omega)]
  have h3 : (insL l e p).drop (p + 1) = l.drop p := by
    unfold insL
    rw [List.drop_append, h1, List.drop_of_length_le (by omega), show p + 1 - p = 1 from by omega]
    simp
  rw [h2, h3, List.take_append_drop]
theorem good_lt {l : List Ev} (hg : GoodQ l) (i : Nat) : ∀ j, i < j → j < l.length → (evAt l i).cmp (evAt l j) < 0
  | 0, h, _ => by omega
  | j + 1, h, hl => by
    have h1 := (hg.2 (j + 1) hl).2.1 (by omega)
    rw [Nat.add_sub_cancel] at h1
    by_cases e : i = j
    · subst e; exact h1
    · exact cmp_trans (good_lt hg i j (by omega) (by omega)) h1
theorem good_first {l : List Ev} (hg : GoodQ l) {i : Nat} (hi : i < l.length) : ¬ 0 < (evAt l 0).ecmp (evAt l i) := by
  have h0 := (hg.2 0 (by omega)).1
  have h1 := (hg.2 i hi).1
  unfold Ev.ecmp ecmp
  rw [if_pos ⟨h0, h1⟩]
  by_cases e : i = 0
  · subst e
    have := cmp_self (evAt l 0)
    unfold Ev.cmp at this
    omega
  · have := good_lt hg 0 i (by omega) hi
    unfold Ev.cmp at this
    omega
end Go.Proofs.Yteecpandpkicmaa
