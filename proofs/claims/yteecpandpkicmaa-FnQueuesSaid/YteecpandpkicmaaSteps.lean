/- One step of lifting, one of sinking. -/
import Derived.Test.YteecpandpkicmaaPure
namespace Go.Proofs.Yteecpandpkicmaa
theorem upL_step {l : List Ev} {i p : Nat} (hp : (i - 1) / 2 = p) (hi : p < i) (hc : (evAt l i).cmp (evAt l p) < 0) : upL (swp l i p) p = upL l i := by
  subst hp; exact (upL_go (by omega) hc).symm
theorem downL_step {l : List Ev} {n i k : Nat} (hk : pickL l n i = k) (hne : k ≠ i) : downL (swp l i k) n k = downL l n i := by
  subst hk; exact (downL_go hne).symm
theorem pick_none {l : List Ev} {n i : Nat} (h : ¬ 2 * i + 1 < n) : pickL l n i = i := by
  rw [pick_lib, if_neg h]
/- The document's way, test by test. -/
theorem pick_left {l : List Ev} {n i : Nat} (h1 : 2 * i + 1 < n) (a : (evAt l (2 * i + 1)).cmp (evAt l i) < 0) (b : ¬ (2 * i + 2 < n ∧ (evAt l (2 * i + 2)).cmp (evAt l (2 * i + 1)) < 0)) : pickL l n i = 2 * i + 1 := by
  unfold pickL; rw [if_pos (And.intro h1 a), if_neg b]
theorem pick_right {l : List Ev} {n i : Nat} (h1 : 2 * i + 1 < n) (a : (evAt l (2 * i + 1)).cmp (evAt l i) < 0) (h2 : 2 * i + 2 < n) (b : (evAt l (2 * i + 2)).cmp (evAt l (2 * i + 1)) < 0) : pickL l n i = 2 * i + 2 := by
  unfold pickL; rw [if_pos (And.intro h1 a), if_pos (And.intro h2 b)]
theorem pick_right' {l : List Ev} {n i : Nat} (a : ¬ (2 * i + 1 < n ∧ (evAt l (2 * i + 1)).cmp (evAt l i) < 0)) (h2 : 2 * i + 2 < n) (b : (evAt l (2 * i + 2)).cmp (evAt l i) < 0) : pickL l n i = 2 * i + 2 := by
  unfold pickL; rw [if_neg a, if_pos (And.intro h2 b)]
theorem pick_stay {l : List Ev} {n i : Nat} (a : ¬ (2 * i + 1 < n ∧ (evAt l (2 * i + 1)).cmp (evAt l i) < 0)) (b : ¬ (2 * i + 2 < n ∧ (evAt l (2 * i + 2)).cmp (evAt l i) < 0)) : pickL l n i = i := by
  unfold pickL; rw [if_neg a, if_neg b]
/- The library's way. -/
theorem lib_right {l : List Ev} {n i : Nat} (h2 : 2 * i + 2 < n) (b : (evAt l (2 * i + 2)).cmp (evAt l (2 * i + 1)) < 0) (c : (evAt l (2 * i + 2)).cmp (evAt l i) < 0) : pickL l n i = 2 * i + 2 := by
  rw [pick_lib, if_pos (by omega), if_pos ⟨h2, b⟩, if_pos c]
theorem lib_right_stay {l : List Ev} {n i : Nat} (h2 : 2 * i + 2 < n) (b : (evAt l (2 * i + 2)).cmp (evAt l (2 * i + 1)) < 0) (c : ¬ (evAt l (2 * i + 2)).cmp (evAt l i) < 0) : pickL l n i = i := by
  rw [pick_lib, if_pos (by omega), if_pos ⟨h2, b⟩, if_neg c]
theorem lib_left {l : List Ev} {n i : Nat} (h1 : 2 * i + 1 < n) (b : ¬ (2 * i + 2 < n ∧ (evAt l (2 * i + 2)).cmp (evAt l (2 * i + 1)) < 0)) (c : (evAt l (2 * i + 1)).cmp (evAt l i) < 0) : pickL l n i = 2 * i + 1 := by
  rw [pick_lib, if_pos h1, if_neg b, if_pos c]
theorem lib_left_stay {l : List Ev} {n i : Nat} (h1 : 2 * i + 1 < n) (b : ¬ (2 * i + 2 < n ∧ (evAt l (2 * i + 2)).cmp (evAt l (2 * i + 1)) < 0)) (c : ¬ (evAt l (2 * i + 1)).cmp (evAt l i) < 0) : pickL l n i = i := by
  rw [pick_lib, if_pos h1, if_neg b, if_neg c]
end Go.Proofs.Yteecpandpkicmaa
