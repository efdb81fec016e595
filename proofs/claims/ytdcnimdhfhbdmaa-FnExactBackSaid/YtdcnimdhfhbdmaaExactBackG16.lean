/- PTs, Good -/
import Derived.Test.YtdcnimdhfhbdmaaExactBackG13
import Derived.Test.YtdcnimdhfhbdmaaExactBackG15
import Derived.Test.YtdcnimdhfhbdmaaExactBackG03
import Derived.Sort.BigQuietIn
/- The specification's cut of a part in two. -/
namespace Go.Proofs.Ytdcnimdhfhbdmaa
open Go.RowKit
theorem Bk.beyond {W : World} {P : Nat} {T : TypeId} {vs : Array Value} (h : Bk W P T vs) {i : Nat} {v : Value} (hv : vs[i]? = some v) : ∀ p : Beyond W, p.w.cell? ⟨P, i, none⟩ = some v := fun p => p.cell h.lt (h.cell hv)
/- Ahead of k all is before e, and at k it is not. -/
structure CutAt (l : List Ps) (e : Ev) (k : Nat) : Prop where
 le : k ≤ l.length
 lo : ∀ j, j < k → (psAt l j).e.cmp e < 0
 hi : k < l.length → ¬ (psAt l k).e.cmp e < 0
theorem CutAt.same {l : List Ps} {e : Ev} {k k' : Nat} (h : CutAt l e k) (h' : CutAt l e k') : k = k' := by
 rcases Nat.lt_trichotomy k k' with c | c | c
 ·exact absurd (h'.lo k c) (h.hi (by have := h'.le; omega))
 ·exact c
 ·exact absurd (h.lo k' c) (h'.hi (by have := h.le; omega))
theorem src_ones {w : World} {l : List Ps} {cs : List Value} (hl : cs.length = l.length * 12) (hd : ∀ j, j < l.length * 12 → IsD w (nthV cs j) (pastsD_f l j)) : ∀ u ∈ cs, u.oneCell' = true := fun u hu => by
 obtain ⟨j, hj, rfl⟩ := List.mem_iff_getElem.1 hu
 have h := hd j (by omega)
 have e : nthV cs j = cs[j] := by simp [nthV, hj]
 rw [e] at h
 exact Ps.one h
end Go.Proofs.Ytdcnimdhfhbdmaa

/- What a queue is. -/
namespace Go.Proofs.Ytdcnimdhfhbdmaa
open Go.RowKit
def Good1 (l : List Ev) (i : Nat) : Prop := (evAt l i).ok = true ∧ (0 < i → (evAt l (i - 1)).cmp (evAt l i) < 0) ∧ ∀ j, j < i → (evAt l j).g ≠ (evAt l i).g
def GoodQ (l : List Ev) : Prop := l.length ≤ 2000 ∧ ∀ i, i < l.length → Good1 l i
theorem no_good {l : List Ev} {k : Nat} (hk : k < l.length) (h : ¬ Good1 l k) : ¬ GoodQ l := fun e => (h (e.2 k hk)).elim

end Go.Proofs.Ytdcnimdhfhbdmaa

