/- Going back, as plain values: what is left, what is undone. -/
import Derived.Test.YtdcnimdhfhbdmaaExactBackLPTt
import Derived.Test.YtdcnimdhfhbdmaaExactBackG00
import Derived.Test.YtdcnimdhfhbdmaaExactBackLInsD
namespace Go.Proofs.Ytdcnimdhfhbdmaa
open Go.RowKit
def Pa.back (p : Pa) (j : Nat) : Pa := ⟨p.n, if j < p.p.length then (psAt p.p j).b else p.st, p.p.take j, (p.p.drop j).map Ps.e ++ p.t, p.a⟩
def undoL (l : List Ps) (j : Nat) : List Ev := ((l.drop j).flatMap Ps.s).reverse
theorem psAt_get {l : List Ps} {k : Nat} (h : k < l.length) : psAt l k = l[k] := by simp [psAt, h]
theorem drop_ps {l : List Ps} {k : Nat} (h : k < l.length) : l.drop k = psAt l k :: l.drop (k + 1) := by
  rw [psAt_get h]
  exact List.drop_eq_getElem_cons h
theorem back_all (p : Pa) : p.back p.p.length = p := by
  unfold Pa.back
  simp
theorem back_todo (p : Pa) {j : Nat} (h : j ≤ p.p.length) : (p.back j).t = p.all.drop j := by
  show (p.p.drop j).map Ps.e ++ p.t = (p.p.map Ps.e ++ p.t).drop j
  rw [List.drop_append_of_le_length (by simpa using h), List.map_drop]
theorem back_step (p : Pa) {k : Nat} (h : k < p.p.length) : (p.back k).t = (psAt p.p k).e :: (p.back (k + 1)).t := by
  show (p.p.drop k).map Ps.e ++ p.t = _ :: ((p.p.drop (k + 1)).map Ps.e ++ p.t)
  rw [drop_ps h]
  rfl
theorem back_st (p : Pa) {k : Nat} (h : k < p.p.length) : (p.back k).st = (psAt p.p k).b := by
  show (if k < p.p.length then _ else _) = _
  rw [if_pos h]
theorem undo_all (l : List Ps) : undoL l l.length = [] := by simp [undoL]
theorem undo_step {l : List Ps} {k : Nat} (h : k < l.length) : undoL l k = undoL l (k + 1) ++ (psAt l k).s.reverse := by
  unfold undoL
  rw [drop_ps h]
  simp
theorem all_chain {p : Pa} (hg : GoodP p) : ∀ i, i < p.all.length - 1 → (evAt p.all i).cmp (evAt p.all (i + 1)) < 0 := fun i hi => by
  obtain ⟨_, _, _, _, ⟨hok, _, hc, _⟩, _⟩ := hg
  exact (ecmp_iff (hok i (by omega)) (hok (i + 1) (by omega))).1 (hc i hi)
/- One that goes back is ahead of all that is to be done. -/
theorem back_ahead {p : Pa} (hg : GoodP p) {k : Nat} (h : k < p.p.length) {i : Nat} (hi : i < (p.back (k + 1)).t.length) : (psAt p.p k).e.cmp (evAt (p.back (k + 1)).t i) < 0 := by
  rw [back_todo p (by omega)] at hi ⊢
  rw [evAt_drop, ← all_done p h, show k + 1 + i = k + i + 1 from by omega]
  rw [List.length_drop] at hi
  exact chain_lt (all_chain hg) i k (by omega)
theorem back_ins {p : Pa} (hg : GoodP p) {k q : Nat} (h : k < p.p.length) (hq : InsAt (p.back (k + 1)).t (psAt p.p k).e q) : q = 0 := by
  obtain ⟨h1, h2, _⟩ := hq
  rcases Nat.eq_zero_or_pos q with e | e
  · exact e
  · exact absurd (h2 0 e) (cmp_asymm (back_ahead hg h (by omega)))
/- What is left is all that is ahead. -/
structure BackAt (l : List Ps) (e : Ev) (j : Nat) : Prop where
  le : j ≤ l.length
  hi : ∀ i, j ≤ i → i < l.length → ¬ (psAt l i).e.cmp e < 0
  lo : 0 < j → (psAt l (j - 1)).e.cmp e < 0
theorem BackAt.cut {p : Pa} {e : Ev} {j : Nat} (hg : GoodP p) (h : BackAt p.p e j) : j = cutK p.p e := by
  refine CutAt.same (l := p.p) (e := e) ⟨h.le, fun i hi => ?_, fun hj => h.hi j (Nat.le_refl _) hj⟩ (cutK_at p.p e)
  have hl := h.lo (by omega)
  by_cases hij : i = j - 1
  · rw [hij]; exact hl
  · have hle := h.le
    have hc := chain_lt (all_chain hg) (j - 1 - i - 1) i (by rw [all_length]; omega)
    rw [show i + (j - 1 - i - 1) + 1 = j - 1 from by omega, all_done p (by omega), all_done p (by omega)] at hc
    exact cmp_trans hc hl
theorem back_wt {p : Pa} (hg : GoodP p) (hw : p.wt ≤ 1048576) {j : Nat} (hj : j ≤ p.p.length) : (p.back j).wt ≤ 1048576 := by
  have h0 := take_wt p.p hj
  have h1 : (pastsD p.p).wt = p.p.length + sumL (fun i => (psAt p.p i).wt) p.p.length := pastsD_wt p.p
  have h2 := pastsD_wt (p.p.take j)
  have e0 : (intsD (p.back j).st.r).wt = (p.back j).st.r.length := ints_wt _
  have e1 : (evsD (p.back j).t).wt = (p.back j).t.length := evs_wt _
  have e2 := ints_wt p.st.r
  have e3 := evs_wt p.t
  have e4 : (p.back j).t.length = p.p.length - j + p.t.length := by simp [Pa.back]
  have e5 : (p.p.take j).length = j := by simp; omega
  unfold Pa.wt at hw ⊢
  obtain ⟨⟨g1, g2, g3⟩, _, _⟩ := hg
  have e6 := ints_wt p.a
  show (intsD (p.back j).st.r).wt + (pastsD (p.p.take j)).wt + (evsD (p.back j).t).wt + (intsD p.a).wt ≤ 1048576
  rw [e0, e1]
  have e7 : (p.back j).st.r.length + (pastsD (p.p.take j)).wt + (p.p.length - j) ≤ p.st.r.length + (pastsD p.p).wt := by
    by_cases hlt : j < p.p.length
    · rw [back_st p hlt, h1, h2, e5]
      have e8 : sumL (fun i => (psAt (p.p.take j) i).wt) j = sumL (fun i => (psAt p.p i).wt) j := sumL_congr (fun i hi => by rw [psAt_take hi])
      rw [e8]
      have e9 := sumL_mono (fun i => (psAt p.p i).wt) (show j + 1 ≤ p.p.length from hlt)
      simp only [sumL] at e9
      have e10 : (psAt p.p j).b.r.length ≤ (psAt p.p j).wt := by
        have := ints_wt (psAt p.p j).b.r
        unfold Ps.wt
        omega
      omega
    · obtain rfl : j = p.p.length := by omega
      rw [back_all]
      simp
  omega
theorem undo_len {p : Pa} {j : Nat} (hj : j ≤ p.p.length) : (undoL p.p j).length ≤ (pastsD p.p).wt := by
  have h1 : (pastsD p.p).wt = p.p.length + sumL (fun i => (psAt p.p i).wt) p.p.length := pastsD_wt p.p
  have h2 : ∀ d, d ≤ p.p.length → (undoL p.p (p.p.length - d)).length + sumL (fun i => (psAt p.p i).wt) (p.p.length - d) ≤ sumL (fun i => (psAt p.p i).wt) p.p.length := by
    intro d
    induction d with
    | zero => intro _; simp [undo_all]
    | succ d ih =>
      intro hd
      have hi := ih (by omega)
      rw [undo_step (k := p.p.length - (d + 1)) (by omega), show p.p.length - (d + 1) + 1 = p.p.length - d from by omega]
      rw [List.length_append, List.length_reverse]
      have e1 : sumL (fun i => (psAt p.p i).wt) (p.p.length - d) = sumL (fun i => (psAt p.p i).wt) (p.p.length - (d + 1)) + (psAt p.p (p.p.length - (d + 1))).wt := by
        rw [show p.p.length - d = p.p.length - (d + 1) + 1 from by omega]; rfl
      have e2 : (psAt p.p (p.p.length - (d + 1))).s.length ≤ (psAt p.p (p.p.length - (d + 1))).wt := by
        have := evs_wt (psAt p.p (p.p.length - (d + 1))).s
        unfold Ps.wt
        omega
      omega
  have h3 := h2 (p.p.length - j) (by omega)
  rw [show p.p.length - (p.p.length - j) = j from by omega] at h3
  omega
/- What Back answers. -/
noncomputable def backA (p : Pa) (e : Ev) : Pa := if (p.ok && e.ok) = true then (if (p.back (cutK p.p e)).ok = true then p.back (cutK p.p e) else p) else Pa.none
noncomputable def backB (p : Pa) (e : Ev) : List Ev := if (p.ok && e.ok) = true then (if (p.back (cutK p.p e)).ok = true then undoL p.p (cutK p.p e) else []) else []
end Go.Proofs.Ytdcnimdhfhbdmaa
