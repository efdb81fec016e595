/- Pure, NTurn, NInts, MPure, Base -/
import Derived.Test.YtbcdfacbhemijaaDoorRows
import Derived.WalkKit
import Derived.Below
import Derived.OwnWalk
import Derived.Deep.RegionHeld3
import Derived.WalkSpells
import Derived.WalkLawsBesides
import Derived.Outline
/- Events and heaps of them as plain lists: lifting, sinking, taking out; what the library does and what the document says come to the same. -/
namespace Go.Proofs.YtbcdfacbhemijaaDoor
def okB (t s q d k v g : Int) : Bool := decide (0 ≤ t ∧ t ≤ 1000 ∧ -1 ≤ s ∧ s ≤ 3 ∧ 0 ≤ q ∧ q ≤ 100000 ∧ 0 ≤ d ∧ d ≤ 3 ∧ 0 ≤ k ∧ k ≤ 3 ∧ 0 ≤ v ∧ v ≤ 999 ∧ 0 ≤ g ∧ g ≤ 100000)
def num (a b : Int) : Int := if a < b then -1 else if b < a then 1 else 0
def cmpI (t s q g t' s' q' g' : Int) : Int := if t ≠ t' then num t t' else if s ≠ s' then num s s' else if q ≠ q' then num q q' else num g g'
structure Ev where
  t : Int
  s : Int
  q : Int
  d : Int
  k : Int
  v : Int
  g : Int
def evAt (l : List Ev) (i : Nat) : Ev := l.getD i ⟨0, 0, 0, 0, 0, 0, 0⟩
def Ev.ok (e : Ev) : Bool := okB e.t e.s e.q e.d e.k e.v e.g
def Ev.cmp (a b : Ev) : Int := cmpI a.t a.s a.q a.g b.t b.s b.q b.g
theorem cmpI_lt (t s q g t' s' q' g' : Int) : cmpI t s q g t' s' q' g' < 0 ↔ t < t' ∨ (t = t' ∧ (s < s' ∨ (s = s' ∧ (q < q' ∨ (q = q' ∧ g < g'))))) := by
  unfold cmpI num
  split
  · split
    · omega
    · split <;> omega
  · split
    · split
      · omega
      · split <;> omega
    · split
      · split
        · omega
        · split <;> omega
      · split
        · omega
        · split <;> omega
theorem cmp_trans {a b c : Ev} (h : a.cmp b < 0) (k : b.cmp c < 0) : a.cmp c < 0 := by
  unfold Ev.cmp at *
  rw [cmpI_lt] at *
  omega
theorem cmp_neg {a b c : Ev} (h : ¬ a.cmp b < 0) (k : ¬ b.cmp c < 0) : ¬ a.cmp c < 0 := by
  unfold Ev.cmp at *
  rw [cmpI_lt] at *
  omega
theorem cmp_asymm {a b : Ev} (h : a.cmp b < 0) : ¬ b.cmp a < 0 := by
  unfold Ev.cmp at *
  rw [cmpI_lt] at *
  omega

theorem evAt_set (l : List Ev) (i j : Nat) (e : Ev) (h : i < l.length) : evAt (l.set i e) j = if i = j then e else evAt l j := by
  unfold evAt
  rw [List.getD_eq_getElem?_getD, List.getElem?_set]
  split
  · next h1 => subst h1; simp
  · simp
theorem evAt_left (l m : List Ev) (i : Nat) (h : i < l.length) : evAt (l ++ m) i = evAt l i := by
  unfold evAt
  rw [List.getD_eq_getElem?_getD, List.getD_eq_getElem?_getD, List.getElem?_append_left h]
theorem evAt_right (l m : List Ev) (i : Nat) : evAt (l ++ m) (l.length + i) = evAt m i := by
  unfold evAt
  rw [List.getD_eq_getElem?_getD, List.getD_eq_getElem?_getD, List.getElem?_append_right (by omega)]
  congr 2
  omega
theorem evAt_last (l : List Ev) (e : Ev) : evAt (l ++ [e]) l.length = e := by
  have := evAt_right l [e] 0
  rw [Nat.add_zero] at this
  exact this

/- Two places changed over. -/
def swp (l : List Ev) (i k : Nat) : List Ev := (l.set i (evAt l k)).set k (evAt l i)
theorem swp_length (l : List Ev) (i k : Nat) : (swp l i k).length = l.length := by simp [swp]
theorem evAt_swp (l : List Ev) (i k j : Nat) (hi : i < l.length) (hk : k < l.length) : evAt (swp l i k) j = if k = j then evAt l i else if i = j then evAt l k else evAt l j := by
  unfold swp
  rw [evAt_set _ _ _ _ (by simpa using hk), evAt_set _ _ _ _ hi]
theorem swp_append (l m : List Ev) (i k : Nat) (hi : i < l.length) (hk : k < l.length) : swp (l ++ m) i k = swp l i k ++ m := by
  unfold swp
  rw [evAt_left _ _ _ hi, evAt_left _ _ _ hk, List.set_append_left _ _ hi, List.set_append_left _ _ (by simpa using hk)]

theorem swp_comm (l : List Ev) (i k : Nat) : swp l i k = swp l k i := by
  unfold swp
  by_cases h : i = k
  · subst h; rfl
  · rw [List.set_comm _ _ h]

/- To lift. -/
def upL (l : List Ev) (i : Nat) : List Ev :=
  if h : 0 < i ∧ (evAt l i).cmp (evAt l ((i - 1) / 2)) < 0 then upL (swp l i ((i - 1) / 2)) ((i - 1) / 2) else l
termination_by i
decreasing_by omega
theorem upL_go {l : List Ev} {i : Nat} (h : 0 < i) (hc : (evAt l i).cmp (evAt l ((i - 1) / 2)) < 0) : upL l i = upL (swp l i ((i - 1) / 2)) ((i - 1) / 2) := by
  rw [upL, dif_pos ⟨h, hc⟩]
theorem upL_stop {l : List Ev} {i : Nat} (h : ¬ (0 < i ∧ (evAt l i).cmp (evAt l ((i - 1) / 2)) < 0)) : upL l i = l := by
  rw [upL, dif_neg h]
theorem upL_length (l : List Ev) (i : Nat) : (upL l i).length = l.length := by
  induction i using Nat.strongRecOn generalizing l with
  | _ i ih =>
    by_cases h : 0 < i ∧ (evAt l i).cmp (evAt l ((i - 1) / 2)) < 0
    · rw [upL_go h.1 h.2, ih _ (by omega), swp_length]
    · rw [upL_stop h]
theorem upL_append (l m : List Ev) (i : Nat) (hi : i < l.length) : upL (l ++ m) i = upL l i ++ m := by
  induction i using Nat.strongRecOn generalizing l with
  | _ i ih =>
    have hp : (i - 1) / 2 < l.length := by omega
    by_cases h : 0 < i ∧ (evAt l i).cmp (evAt l ((i - 1) / 2)) < 0
    · rw [upL_go h.1 h.2, upL_go h.1 (by rw [evAt_left _ _ _ hi, evAt_left _ _ _ hp]; exact h.2), swp_append _ _ _ _ hi hp, ih _ (by omega) _ (by rw [swp_length]; omega)]
    · rw [upL_stop h, upL_stop (by rw [evAt_left _ _ _ hi, evAt_left _ _ _ hp]; exact h)]

/- To sink, within the first n: the place that comes up. -/
def pickL (l : List Ev) (n i : Nat) : Nat :=
  if 2 * i + 2 < n ∧ (evAt l (2 * i + 2)).cmp (evAt l (if 2 * i + 1 < n ∧ (evAt l (2 * i + 1)).cmp (evAt l i) < 0 then 2 * i + 1 else i)) < 0 then 2 * i + 2
  else if 2 * i + 1 < n ∧ (evAt l (2 * i + 1)).cmp (evAt l i) < 0 then 2 * i + 1 else i
theorem pickL_or (l : List Ev) (n i : Nat) : pickL l n i = i ∨ (pickL l n i = 2 * i + 1 ∧ 2 * i + 1 < n) ∨ (pickL l n i = 2 * i + 2 ∧ 2 * i + 2 < n) := by
  unfold pickL
  generalize hz : (if 2 * i + 1 < n ∧ (evAt l (2 * i + 1)).cmp (evAt l i) < 0 then 2 * i + 1 else i) = z
  by_cases h1 : 2 * i + 2 < n ∧ (evAt l (2 * i + 2)).cmp (evAt l z) < 0
  · rw [if_pos h1]; omega
  · rw [if_neg h1, ← hz]
    by_cases h2 : 2 * i + 1 < n ∧ (evAt l (2 * i + 1)).cmp (evAt l i) < 0
    · rw [if_pos h2]; omega
    · rw [if_neg h2]; omega
theorem pickL_cases (l : List Ev) (n i : Nat) : pickL l n i = i ∨ (i < pickL l n i ∧ pickL l n i < n) := by
  have := pickL_or l n i
  omega
def downL (l : List Ev) (n i : Nat) : List Ev :=
  if _h : i < pickL l n i then downL (swp l i (pickL l n i)) n (pickL l n i) else l
termination_by n - i
decreasing_by
  have := pickL_cases l n i
  omega
theorem downL_go {l : List Ev} {n i : Nat} (h : pickL l n i ≠ i) : downL l n i = downL (swp l i (pickL l n i)) n (pickL l n i) := by
  rw [downL, dif_pos (by have := pickL_cases l n i; omega)]
theorem downL_stop {l : List Ev} {n i : Nat} (h : pickL l n i = i) : downL l n i = l := by
  rw [downL, dif_neg (by omega)]
theorem downL_length (l : List Ev) (n i : Nat) : (downL l n i).length = l.length := by
  generalize hm : n - i = m
  induction m using Nat.strongRecOn generalizing l i with
  | _ m ih =>
    by_cases h : pickL l n i = i
    · rw [downL_stop h]
    · rw [downL_go h, ih _ (by have := pickL_cases l n i; omega) _ _ rfl, swp_length]
theorem pickL_append (l m : List Ev) (i : Nat) (hi : i < l.length) : pickL (l ++ m) l.length i = pickL l l.length i := by
  unfold pickL
  by_cases h1 : 2 * i + 1 < l.length
  · rw [evAt_left _ _ _ hi, evAt_left _ _ _ h1]
    by_cases h2 : 2 * i + 2 < l.length
    · rw [evAt_left _ _ _ h2]
      congr 3
      · split
        · rw [evAt_left _ _ _ h1]
        · rw [evAt_left _ _ _ hi]
    · simp [h2]
  · simp [h1, show ¬ 2 * i + 2 < l.length from by omega]
theorem downL_append (l m : List Ev) (i : Nat) (hi : i < l.length) : downL (l ++ m) l.length i = downL l l.length i ++ m := by
  generalize hm : l.length - i = k
  induction k using Nat.strongRecOn generalizing l i with
  | _ k ih =>
    by_cases h : pickL l l.length i = i
    · rw [downL_stop h, downL_stop (by rw [pickL_append _ _ _ hi]; exact h)]
    · have hc := (pickL_cases l l.length i).resolve_left h
      rw [downL_go h, downL_go (by rw [pickL_append _ _ _ hi]; exact h), pickL_append _ _ _ hi, swp_append _ _ _ _ hi hc.2]
      have := ih (l.length - pickL l l.length i) (by omega) (swp l i (pickL l l.length i)) (pickL l l.length i) (by rw [swp_length]; exact hc.2) (by rw [swp_length])
      rw [swp_length] at this
      exact this
/- Sinking leaves alone what is ahead of its place. -/
theorem downL_ahead (l : List Ev) (n i j : Nat) (hn : n ≤ l.length) (hi : i < n) (hj : j < i) : evAt (downL l n i) j = evAt l j := by
  generalize hm : n - i = m
  induction m using Nat.strongRecOn generalizing l i with
  | _ m ih =>
    by_cases h : pickL l n i = i
    · rw [downL_stop h]
    · have hc := (pickL_cases l n i).resolve_left h
      rw [downL_go h, ih (n - pickL l n i) (by omega) (swp l i (pickL l n i)) (pickL l n i) (by rw [swp_length]; exact hn) hc.2 (by omega) rfl, evAt_swp _ _ _ _ (by omega) (by omega), if_neg (by omega), if_neg (by omega)]
/- ... and at its place leaves the one that came up. -/
theorem downL_at (l : List Ev) (n i : Nat) (hn : n ≤ l.length) (hi : i < n) : evAt (downL l n i) i = evAt l (pickL l n i) := by
  by_cases h : pickL l n i = i
  · rw [downL_stop h, h]
  · have hc := (pickL_cases l n i).resolve_left h
    rw [downL_go h, downL_ahead _ _ _ _ (by rw [swp_length]; exact hn) hc.2 hc.1, evAt_swp _ _ _ _ (by omega) (by omega), if_neg (by omega), if_pos rfl]

/- What stays of all that is in a list when places are changed over. -/
def Kept (P : Ev → Prop) (l : List Ev) : Prop := ∀ j, j < l.length → P (evAt l j)
theorem kept_swp {P : Ev → Prop} {l : List Ev} {i k : Nat} (hi : i < l.length) (hk : k < l.length) : Kept P (swp l i k) ↔ Kept P l := by
  constructor
  · intro h j hj
    by_cases h1 : i = j
    · subst h1
      have := h k (by rw [swp_length]; exact hk)
      rwa [evAt_swp _ _ _ _ hi hk, if_pos rfl] at this
    · by_cases h2 : k = j
      · subst h2
        have := h i (by rw [swp_length]; exact hi)
        rwa [evAt_swp _ _ _ _ hi hk, if_neg (by omega), if_pos rfl] at this
      · have := h j (by rw [swp_length]; exact hj)
        rwa [evAt_swp _ _ _ _ hi hk, if_neg h2, if_neg h1] at this
  · intro h j hj
    rw [swp_length] at hj
    rw [evAt_swp _ _ _ _ hi hk]
    split
    · exact h i hi
    · split
      · exact h k hk
      · exact h j hj
theorem kept_upL {P : Ev → Prop} {l : List Ev} {i : Nat} (hi : i < l.length) : Kept P (upL l i) ↔ Kept P l := by
  induction i using Nat.strongRecOn generalizing l with
  | _ i ih =>
    by_cases h : 0 < i ∧ (evAt l i).cmp (evAt l ((i - 1) / 2)) < 0
    · rw [upL_go h.1 h.2, ih _ (by omega) (by rw [swp_length]; omega), kept_swp hi (by omega)]
    · rw [upL_stop h]
theorem kept_downL {P : Ev → Prop} {l : List Ev} {n i : Nat} (hn : n ≤ l.length) (hi : i < n) : Kept P (downL l n i) ↔ Kept P l := by
  generalize hm : n - i = m
  induction m using Nat.strongRecOn generalizing l i with
  | _ m ih =>
    by_cases h : pickL l n i = i
    · rw [downL_stop h]
    · have hc := (pickL_cases l n i).resolve_left h
      rw [downL_go h, ih (n - pickL l n i) (by omega) (by rw [swp_length]; exact hn) hc.2 rfl, kept_swp (by omega) (by omega)]
theorem kept_snoc {P : Ev → Prop} {l : List Ev} {e : Ev} : Kept P (l ++ [e]) ↔ Kept P l ∧ P e := by
  constructor
  · intro h
    refine ⟨fun j hj => ?_, ?_⟩
    · have := h j (by simp; omega)
      rwa [evAt_left _ _ _ hj] at this
    · have := h l.length (by simp)
      rwa [evAt_last] at this
  · rintro ⟨h1, h2⟩ j hj
    simp at hj
    by_cases e1 : j = l.length
    · subst e1; rw [evAt_last]; exact h2
    · rw [evAt_left _ _ _ (by omega)]; exact h1 j (by omega)

/- The document's push and take. -/
def pushL (l : List Ev) (e : Ev) : List Ev := upL (l ++ [e]) l.length
theorem pushL_length (l : List Ev) (e : Ev) : (pushL l e).length = l.length + 1 := by simp [pushL, upL_length]
theorem kept_pushL {P : Ev → Prop} {l : List Ev} {e : Ev} : Kept P (pushL l e) ↔ Kept P l ∧ P e := by
  unfold pushL
  rw [kept_upL (by simp), kept_snoc]
def cutL (l : List Ev) (i : Nat) : List Ev := (l.set i (evAt l (l.length - 1))).take (l.length - 1)
theorem cutL_length (l : List Ev) (i : Nat) : (cutL l i).length = l.length - 1 := by simp [cutL]
def takeL (l : List Ev) (i : Nat) : List Ev := if i < l.length - 1 then upL (downL (cutL l i) (l.length - 1) i) i else cutL l i
theorem takeL_length (l : List Ev) (i : Nat) : (takeL l i).length = l.length - 1 := by
  unfold takeL
  split
  · rw [upL_length, downL_length, cutL_length]
  · rw [cutL_length]
theorem evAt_take (l : List Ev) (k i : Nat) (h : i < k) : evAt (l.take k) i = evAt l i := by simp [evAt, List.getElem?_take_of_lt h]
theorem evAt_drop (l : List Ev) (k i : Nat) : evAt (l.drop k) i = evAt l (k + i) := by simp [evAt]
theorem ext_ev {l m : List Ev} (h : l.length = m.length) (hh : ∀ j, j < l.length → evAt l j = evAt m j) : l = m := by
  apply List.ext_getElem h
  intro j h1 h2
  have := hh j h1
  simpa [evAt, h1, h2] using this
/- The list with the last one changed over into place i: what is cut, and the one that goes. -/
theorem swp_cut (l : List Ev) (i : Nat) (hi : i < l.length) : swp l i (l.length - 1) = cutL l i ++ [evAt l i] := by
  have hc := cutL_length l i
  refine ext_ev (by rw [swp_length, List.length_append, hc, List.length_singleton]; omega) (fun j hj => ?_)
  rw [swp_length] at hj
  rw [evAt_swp _ _ _ _ hi (by omega)]
  by_cases h1 : l.length - 1 = j
  · rw [if_pos h1]
    subst h1
    have := evAt_last (cutL l i) (evAt l i)
    rw [hc] at this
    exact this.symm
  · rw [if_neg h1, evAt_left _ _ _ (by rw [hc]; omega)]
    unfold cutL
    rw [evAt_take _ _ _ (by omega), evAt_set _ _ _ _ hi]
theorem take_left (l m : List Ev) (n : Nat) (h : n = l.length) : (l ++ m).take n = l := by subst h; simp
/- The library's pop. -/
theorem pop_same (l : List Ev) (h : 0 < l.length) : (downL (swp l 0 (l.length - 1)) (l.length - 1) 0).take (l.length - 1) = takeL l 0 ∧ evAt (downL (swp l 0 (l.length - 1)) (l.length - 1) 0) (l.length - 1) = evAt l 0 := by
  rw [swp_cut _ _ h]
  have hc := cutL_length l 0
  unfold takeL
  by_cases h1 : 0 < l.length - 1
  · rw [if_pos h1]
    have hd := downL_append (cutL l 0) [evAt l 0] 0 (by omega)
    rw [hc] at hd
    rw [hd, take_left _ _ _ (by rw [downL_length, hc]), upL_stop (by omega)]
    refine ⟨rfl, ?_⟩
    have := evAt_last (downL (cutL l 0) (l.length - 1) 0) (evAt l 0)
    rw [downL_length, hc] at this
    exact this
  · rw [if_neg h1]
    have hd : downL (cutL l 0 ++ [evAt l 0]) (l.length - 1) 0 = cutL l 0 ++ [evAt l 0] := downL_stop (by unfold pickL; rw [if_neg (by omega), if_neg (by omega)])
    rw [hd, take_left _ _ _ hc.symm]
    refine ⟨rfl, ?_⟩
    have := evAt_last (cutL l 0) (evAt l 0)
    rw [hc] at this
    exact this
/- A heap: each behind the one above it. -/
def HeapL (l : List Ev) : Prop := ∀ i, 0 < i → i < l.length → (evAt l ((i - 1) / 2)).cmp (evAt l i) < 0
/- The library's removal. -/
theorem remove_same (l : List Ev) (i : Nat) (hh : HeapL l) (hi : i < l.length - 1) :
    ((if pickL (swp l i (l.length - 1)) (l.length - 1) i ≠ i then downL (swp l i (l.length - 1)) (l.length - 1) i else upL (downL (swp l i (l.length - 1)) (l.length - 1) i) i).take (l.length - 1) = takeL l i) := by
  rw [swp_cut _ _ (by omega)]
  have hc := cutL_length l i
  have hp := pickL_append (cutL l i) [evAt l i] i (by omega)
  have hd := downL_append (cutL l i) [evAt l i] i (by omega)
  rw [hc] at hd hp
  rw [hd, hp]
  unfold takeL
  rw [if_pos hi]
  split
  · next hm =>
    rw [take_left _ _ _ (by rw [downL_length, hc])]
    refine (upL_stop ?_).symm
    rintro ⟨h0, h1⟩
    rw [downL_at _ _ _ (by omega) hi, downL_ahead _ _ _ _ (by omega) hi (by omega)] at h1
    have hk := (pickL_cases (cutL l i) (l.length - 1) i).resolve_left hm
    have hpar : (pickL (cutL l i) (l.length - 1) i - 1) / 2 = i := by
      have := pickL_or (cutL l i) (l.length - 1) i
      omega
    have e1 : ∀ j, j < l.length - 1 → j ≠ i → evAt (cutL l i) j = evAt l j := fun j hj hne => by
      unfold cutL
      rw [evAt_take _ _ _ hj, evAt_set _ _ _ _ (by omega), if_neg (by omega)]
    rw [e1 _ hk.2 (by omega), e1 _ (by omega) (by omega)] at h1
    have h2 := hh i h0 (by omega)
    have h3 := hh (pickL (cutL l i) (l.length - 1) i) (by omega) (by omega)
    rw [hpar] at h3
    exact cmp_asymm (cmp_trans h2 h3) h1
  · rw [upL_append _ _ _ (by rw [downL_length, hc]; exact hi), take_left _ _ _ (by rw [upL_length, downL_length, hc])]
theorem takeL_last (l : List Ev) : takeL l (l.length - 1) = l.take (l.length - 1) := by
  unfold takeL cutL
  rw [if_neg (by omega), List.take_set_of_le (Nat.le_refl _)]
/- The library's way to tell which comes up. -/
theorem pick_lib (l : List Ev) (n i : Nat) : pickL l n i =
    if 2 * i + 1 < n then
      (if 2 * i + 2 < n ∧ (evAt l (2 * i + 2)).cmp (evAt l (2 * i + 1)) < 0 then (if (evAt l (2 * i + 2)).cmp (evAt l i) < 0 then 2 * i + 2 else i)
       else (if (evAt l (2 * i + 1)).cmp (evAt l i) < 0 then 2 * i + 1 else i))
    else i := by
  unfold pickL
  by_cases h1 : 2 * i + 1 < n
  · by_cases h2 : 2 * i + 2 < n
    · by_cases a : (evAt l (2 * i + 1)).cmp (evAt l i) < 0
      · by_cases b : (evAt l (2 * i + 2)).cmp (evAt l (2 * i + 1)) < 0
        · have := cmp_trans b a
          simp [h1, h2, a, b, this]
        · simp [h1, h2, a, b]
      · by_cases b : (evAt l (2 * i + 2)).cmp (evAt l (2 * i + 1)) < 0
        · simp [h1, h2, a, b]
        · have := cmp_neg b a
          simp [h1, h2, a, b, this]
    · simp [h1, h2]
  · simp [h1, show ¬ 2 * i + 2 < n from by omega]
end Go.Proofs.YtbcdfacbhemijaaDoor

/- What turns, and what stays as it was. -/
namespace Go.Proofs.YtbcdfacbhemijaaDoor
open Go.RowKit
/- All blocks but those of S stay as they were. -/
structure Turns (S : Nat → Prop) (w w' : World) : Prop where
  os : w'.os = w.os
  tape : w'.tape = w.tape
  output : w'.output = w.output
  size : w.heap.size ≤ w'.heap.size
  block : ∀ k, k < w.heap.size → ¬ S k → w'.heap[k]? = w.heap[k]?
theorem Turns.refl (S : Nat → Prop) (w : World) : Turns S w w := ⟨rfl, rfl, rfl, Nat.le_refl _, fun _ _ _ => rfl⟩
theorem Turns.trans {S : Nat → Prop} {a b c : World} (h : Turns S a b) (k : Turns S b c) : Turns S a c :=
  ⟨k.os.trans h.os, k.tape.trans h.tape, k.output.trans h.output, Nat.le_trans h.size k.size, fun i hi hS => (k.block i (Nat.lt_of_lt_of_le hi h.size) hS).trans (h.block i hi hS)⟩
theorem Turns.drew {S : Nat → Prop} {a w : World} (h : Turns S a w) : Turns S a w.drew := ⟨h.os, h.tape, h.output, h.size, h.block⟩
theorem Turns.of_below {S : Nat → Prop} {w w' : World} (h : Below w.heap.size w w') : Turns S w w' := ⟨h.os, h.tape, h.output, h.size, fun k hk _ => h.block k hk⟩
theorem Turns.to_below {S : Nat → Prop} {w w' : World} {B : Nat} (h : Turns S w w') (hS : ∀ k, S k → B ≤ k) (hB : B ≤ w.heap.size) : Below B w w' :=
  ⟨h.os, h.tape, h.output, h.size, fun k hk => h.block k (by omega) (fun e => by have := hS k e; omega)⟩
theorem Turns.mono {S S' : Nat → Prop} {w w' : World} (h : Turns S w w') (hS : ∀ k, S k → S' k) : Turns S' w w' := ⟨h.os, h.tape, h.output, h.size, fun k hk hn => h.block k hk (fun e => hn (hS k e))⟩
theorem Turns.alloc {S : Nat → Prop} {a w : World} (h : Turns S a w) (o : Obj) : Turns S a (w.alloc o) := h.trans (Turns.of_below ((Below.refl _ w).alloc (Nat.le_refl _) o))
theorem Turns.setCell {S : Nat → Prop} {a w : World} (h : Turns S a w) {p : Addr} (hp : S p.block) (u : Value) : Turns S a (w.setCell p u) :=
  h.trans ⟨rfl, rfl, rfl, by simp [World.setCell], fun k _ hk => Below.heap_setCell _ _ _ _ (fun e => hk (e ▸ hp))⟩
theorem Turns.cell {S : Nat → Prop} {w w' : World} (h : Turns S w w') {b o : Nat} (hb : b < w.heap.size) (hS : ¬ S b) : w'.cell? ⟨b, o, none⟩ = w.cell? ⟨b, o, none⟩ := World.cell?_of_block (w := w) (h.block b hb hS)
theorem Turns.frozen {S : Nat → Prop} {w w' : World} (h : Turns S w w') {b o : Nat} (hb : b < w.heap.size) (hS : ¬ S b) : w'.frozen? ⟨b, o, none⟩ = w.frozen? ⟨b, o, none⟩ := World.frozen?_of_block (w := w) (h.block b hb hS)
end Go.Proofs.YtbcdfacbhemijaaDoor

/- Rows of numbers: eqIntS where both sides are the same, markIntS, heldIntS. -/
namespace Go.Proofs.YtbcdfacbhemijaaDoor
open Go.RowKit
def intAt (l : List Int) (i : Nat) : Int := l.getD i 0
def intCells (l : List Int) : List Value := l.map (Value.int .i64)
/- The bytes of l lie in block b from off on. -/
def IntsAt (w : World) (b off : Nat) (l : List Int) : Prop := b < w.heap.size ∧ ∀ i, i < l.length → w.cell? ⟨b, off + i, none⟩ = some (.int .i64 (intAt l i))
def IsI (w : World) (x : Value) (l : List Int) : Prop := ∃ a cap, x = .slice a l.length cap ∧ l.length ≤ cap ∧ cap ≤ maxLen ∧ (l = [] ∨ ∃ b off, a = some ⟨b, off, none⟩ ∧ IntsAt w b off l)
theorem IntsAt.below {w w' : World} {B b off : Nat} {l : List Int} (h : IntsAt w b off l) (hb : Below B w w') (hB : b < B) : IntsAt w' b off l :=
  ⟨Nat.lt_of_lt_of_le h.1 hb.size, fun i hi => (hb.cell hB).trans (h.2 i hi)⟩
theorem IsI.below {w w' : World} {x : Value} {l : List Int} (h : IsI w x l) (hb : Below w.heap.size w w') : IsI w' x l := by
  obtain ⟨a, cap, rfl, h1, h2, h⟩ := h
  exact ⟨a, cap, rfl, h1, h2, h.imp id (fun ⟨b, off, e, h⟩ => ⟨b, off, e, h.below hb h.1⟩)⟩
/- The block g holds n cells that may be written; the first k of them hold the marks. -/
def MarkTo (w : World) (g n k : Nat) : Prop := g < w.heap.size ∧ (∀ j, j < n → (w.cell? ⟨g, j, none⟩).isSome = true ∧ w.frozen? ⟨g, j, none⟩ = false) ∧ ∀ i, i < k → w.cell? ⟨g, i, none⟩ = some (.int .i64 ((i : Int) + 1))
theorem MarkTo.below {w w' : World} {B g n k : Nat} (h : MarkTo w g n k) (hb : Below B w w') (hB : g < B) : MarkTo w' g n k :=
  ⟨Nat.lt_of_lt_of_le h.1 hb.size, fun j hj => by rw [hb.cell (p := ⟨g, j, none⟩) hB, hb.frozen (p := ⟨g, j, none⟩) hB]; exact h.2.1 j hj, fun i hi => (hb.cell hB).trans (h.2.2 i hi)⟩
theorem MarkTo.put {w : World} {g n k : Nat} (h : MarkTo w g n k) (hk : k < n) : MarkTo (w.setCell ⟨g, k, none⟩ (.int .i64 ((k : Int) + 1))) g n (k + 1) := by
  have e1 : w.setCell ⟨g, k, none⟩ (.int .i64 ((k : Int) + 1)) = w.setCells g k [.int .i64 ((k : Int) + 1)] := rfl
  have hsame : ∀ j, j ≠ k → (w.setCell ⟨g, k, none⟩ (.int .i64 ((k : Int) + 1))).cell? ⟨g, j, none⟩ = w.cell? ⟨g, j, none⟩ := fun j hj => by
    rw [e1]
    exact World.cell?_setCells_out g _ k w ⟨g, j, none⟩ (fun _ _ => by simp; omega)
  have hat : (w.setCell ⟨g, k, none⟩ (.int .i64 ((k : Int) + 1))).cell? ⟨g, k, none⟩ = some (.int .i64 ((k : Int) + 1)) := by
    rw [e1]
    have h0 := World.cell?_setCells_in g [.int .i64 ((k : Int) + 1)] k w (fun j hj => by
      obtain rfl : j = 0 := by simpa using hj
      exact (h.2.1 k hk).1) 0 (by simp)
    simpa using h0
  refine ⟨by simpa using h.1, fun j hj => ?_, fun i hi => ?_⟩
  · refine ⟨?_, ?_⟩
    · by_cases e : j = k
      · subst e; rw [hat]; rfl
      · rw [hsame j e]; exact (h.2.1 j hj).1
    · rw [e1, World.frozen?_setCells]; exact (h.2.1 j hj).2
  · by_cases e : i = k
    · subst e; exact hat
    · rw [hsame i e]; exact h.2.2 i (by omega)
theorem grown_refl (w : World) (row : Option Nat) : w.grownBy w row := ⟨rfl, rfl, rfl, Nat.le_refl _, fun _ _ _ => rfl⟩
theorem grown_trans {w w' w'' : World} {row : Option Nat} (h : w.grownBy w' row) (h' : w'.grownBy w'' row) : w.grownBy w'' row :=
  ⟨h'.os.trans h.os, h'.tape.trans h.tape, h'.output.trans h.output, Nat.le_trans h.size h'.size, fun k hk hr => (h'.block k (Nat.lt_of_lt_of_le hk h.size) hr).trans (h.block k hk hr)⟩
theorem setCell_grown (w : World) (g o : Nat) (v : Value) : w.grownBy (w.setCell ⟨g, o, none⟩ v) (some g) := by
  refine ⟨?_, ?_, ?_, by simp, fun k _ hk => Below.heap_setCell _ _ _ _ (fun e => hk (by rw [e]))⟩
  all_goals (unfold World.setCell; rfl)

set_option maxHeartbeats 2000000 in
theorem eqI_same (x y : Value) (l : List Int) (w : World) (hl : l.length ≤ 4611686018427387904) (hx : IsI w x l) (hy : IsI w y l) :
    Calls Tryd.prog 34 #[x, y] w fun e w' => e = .returned (.bool true) ∧ Below w.heap.size w w' := by
  obtain ⟨a, cap, rfl, h1, h2, h⟩ := hx
  obtain ⟨a', cap', rfl, h1', h2', h'⟩ := hy
  clear h1 h2 h1' h2'
  by_cases hz : l = []
  · subst hz
    clear h h'
    go_enter Tryd.func34, Tryd.ntmps34
    go_wp2
    go_loop [5] (fun i => i = .int .i64 0) (fun _ => 0)
    case atStart => rfl
    case round =>
      subst hrel
      go_wp2
      go_ret
      exact ⟨rfl, Below.refl _ _⟩
  · obtain ⟨b, off, rfl, hb, hc⟩ := h.resolve_left hz
    obtain ⟨b', off', rfl, hb', hc'⟩ := h'.resolve_left hz
    clear h h' hz
    go_enter Tryd.func34, Tryd.ntmps34
    go_wp2
    go_loopw [5] (fun i wr => ∃ k : Nat, k ≤ l.length ∧ i = .int .i64 k ∧ Below w.heap.size w wr) (fun i _ => l.length - (intOf i).toNat)
    case atStart => exact ⟨0, Nat.zero_le _, rfl, Below.refl _ _⟩
    case round =>
      obtain ⟨k, hk, rfl, hB⟩ := hrel
      have HB : Hid (Below w.heap.size w wr) := hB
      by_cases hlt : k < l.length
      · have f0 := (hB.cell (p := ⟨b, off + k, none⟩) hb).trans (hc k hlt)
        have e0 := (hB.cell (p := ⟨b', off' + k, none⟩) hb').trans (hc' k hlt)
        generalize intAt l k = z at f0 e0
        clear hB hc hc'
        go_wp2_with fail
        go_region_held3 (fun W => W.cell? ⟨b, off + k, none⟩ = some (.int .i64 z) ∧ W.cell? ⟨b', off' + k, none⟩ = some (.int .i64 z)) ((repeat' apply And.intro) <;> go_keep) (fail)
        go_wp2
        go_roundw
        case rel => exact ⟨k + 1, by omega, by go_num, HB.out.drew⟩
        case measure => simp [intOf]; omega
      · clear hB hc hc'
        go_wp2
        go_ret
        exact ⟨rfl, HB.out⟩

set_option maxHeartbeats 2000000 in
theorem markI_any (g n cap : Nat) (w : World) (hn : n ≤ 4611686018427387904) (hR : MarkTo w g n 0) :
    Calls Tryd.prog 37 #[.slice (some ⟨g, 0, none⟩) n cap, .int .i64 1] w fun e w' => e = .returned (.int .i64 ((n : Int) + 1)) ∧ MarkTo w' g n n ∧ w.grownBy w' (some g) := by
  have HR0 : Hid (MarkTo w g n 0) := hR
  clear hR
  go_enter Tryd.func37, Tryd.ntmps37
  go_wp2
  go_loopw [5, 1] (fun i z wr => ∃ k : Nat, k ≤ n ∧ i = .int .i64 k ∧ z = .int .i64 ((k : Int) + 1) ∧ MarkTo wr g n k ∧ w.grownBy wr (some g)) (fun i _ _ => n - (intOf i).toNat)
  case atStart => exact ⟨0, Nat.zero_le _, rfl, rfl, HR0.out, grown_refl _ _⟩
  case round =>
    obtain ⟨k, hk, rfl, rfl, hR, hg⟩ := hrel
    have HR : Hid (MarkTo wr g n k) := hR
    have HG : Hid (w.grownBy wr (some g)) := hg
    clear hR hg
    by_cases hlt : k < n
    · obtain ⟨v, hv⟩ := Option.isSome_iff_exists.1 (HR.out.2.1 k hlt).1
      have hf := (HR.out.2.1 k hlt).2
      go_wp2
      go_roundw
      case rel => exact ⟨k + 1, by omega, by go_num, by go_num, HR.out.put hlt, grown_trans HG.out (setCell_grown _ _ _ _)⟩
      case measure => simp [intOf]; omega
    · go_wp2
      go_ret
      obtain rfl : k = n := by omega
      exact ⟨rfl, HR.out, HG.out⟩

set_option maxHeartbeats 1000000 in
theorem markI_nil (a : Option Addr) (cap : Nat) (w : World) : Calls Tryd.prog 37 #[.slice a 0 cap, .int .i64 1] w fun e w' => e = .returned (.int .i64 1) ∧ w' = w := by
  go_enter Tryd.func37, Tryd.ntmps37
  go_wp2
  go_loop [5, 1] (fun i z => i = .int .i64 0 ∧ z = .int .i64 1) (fun _ _ => 0)
  case atStart => exact ⟨rfl, rfl⟩
  case round =>
    obtain ⟨rfl, rfl⟩ := hrel
    go_wp2
    go_ret
    exact ⟨rfl, rfl⟩
/- A slice over the bytes l, in a block of its own from B on, all of whose cells may be written. -/
def OwnI (B : Nat) (w : World) (x : Value) (l : List Int) : Prop := ∃ a cap, x = .slice a l.length cap ∧ l.length ≤ cap ∧ cap ≤ maxLen ∧ (l = [] ∨ ∃ g, a = some ⟨g, 0, none⟩ ∧ B ≤ g ∧ (∀ j, j < l.length → w.frozen? ⟨g, j, none⟩ = false) ∧ IntsAt w g 0 l)
theorem OwnI.nil (B : Nat) (w : World) : OwnI B w (.slice none 0 0) [] := ⟨none, 0, rfl, Nat.le_refl _, Nat.zero_le _, .inl rfl⟩
theorem OwnI.isI {B : Nat} {w : World} {x : Value} {l : List Int} (h : OwnI B w x l) : IsI w x l := by
  obtain ⟨a, cap, rfl, h1, h2, h⟩ := h
  exact ⟨a, cap, rfl, h1, h2, h.imp id (fun ⟨g, e, _, _, hr⟩ => ⟨g, 0, e, hr⟩)⟩
theorem OwnI.below {B : Nat} {w w' : World} {x : Value} {l : List Int} (h : OwnI B w x l) (hb : Below w.heap.size w w') : OwnI B w' x l := by
  obtain ⟨a, cap, rfl, h1, h2, h⟩ := h
  exact ⟨a, cap, rfl, h1, h2, h.imp id (fun ⟨g, e, hg, hf, hr⟩ => ⟨g, e, hg, fun j hj => (hb.frozen (p := ⟨g, j, none⟩) hr.1).trans (hf j hj), hr.below hb hr.1⟩)⟩
theorem OwnI.mono {B B' : Nat} {w : World} {x : Value} {l : List Int} (h : OwnI B w x l) (hb : B' ≤ B) : OwnI B' w x l := by
  obtain ⟨a, cap, rfl, h1, h2, h⟩ := h
  exact ⟨a, cap, rfl, h1, h2, h.imp id (fun ⟨g, e, hg, hr⟩ => ⟨g, e, Nat.le_trans hb hg, hr⟩)⟩
theorem OwnI.of_row {B : Nat} {w : World} {x : Value} {l : List Int} (h : w.ownsRow B 3 1 x l.length (intCells l)) : OwnI B w x l := by
  obtain ⟨hl, ⟨rfl, h0⟩ | ⟨g, cap, cur, rfl, hg, hc, h1, h2, h3, h4⟩⟩ := h
  · exact ⟨none, 0, by rw [h0], by omega, by unfold maxLen; omega, .inl (List.eq_nil_of_length_eq_zero h0)⟩
  · refine ⟨_, cap, rfl, h1, h2, .inr ⟨g, rfl, hg, fun j hj => ?_, (Array.getElem?_eq_some_iff.1 hc).1, fun i hi => ?_⟩⟩
    · have hj2 : j < cur.size := by omega
      simp [World.frozen?, hc]
    · have e1 : w.cell? ⟨g, i, none⟩ = (intCells l)[i]? := by
        rw [← h4, List.getElem?_take_of_lt (by omega)]
        simp [World.cell?, hc]
      rw [Nat.zero_add, e1]
      simp [intCells, intAt, hi]
/- At most one row, at or above B, has turned. -/
def Turned (B : Nat) (w w' : World) : Prop := w' = w ∨ ∃ g, B ≤ g ∧ w.grownBy w' (some g)
theorem Turned.below {B : Nat} {w w' : World} (h : Turned B w w') (hB : B ≤ w.heap.size) : Below B w w' := by
  rcases h with rfl | ⟨g, hg, h⟩
  · exact Below.refl _ _
  · exact (Below.refl B w).grown h hB (fun k e => by cases e; exact hg)
def HeldI (w : World) (x : Value) (m : Int) : Prop := ∃ a n cap, x = .slice a n cap ∧ m = ((n : Nat) : Int) + 1 ∧ n ≤ 4611686018427387904 ∧ (n = 0 ∨ ∃ g, a = some ⟨g, 0, none⟩ ∧ MarkTo w g n n)
theorem HeldI.below {w w' : World} {x : Value} {m : Int} (h : HeldI w x m) (hb : Below w.heap.size w w') : HeldI w' x m := by
  obtain ⟨a, n, cap, h1, h2, h3, h4⟩ := h
  exact ⟨a, n, cap, h1, h2, h3, h4.imp id (fun ⟨g, e, hr⟩ => ⟨g, e, hr.below hb hr.1⟩)⟩
theorem markI_own {B : Nat} {w : World} {x : Value} {l : List Int} (h : OwnI B w x l) (hl : l.length ≤ 4611686018427387904) :
    Calls Tryd.prog 37 #[x, .int .i64 1] w fun e w' => ∃ m : Int, 1 ≤ m ∧ e = .returned (.int .i64 m) ∧ HeldI w' x m ∧ Turned B w w' := by
  obtain ⟨a, cap, rfl, h1, h2, h⟩ := h
  by_cases h0 : l = []
  · subst h0
    refine (markI_nil a cap w).mono ?_
    rintro e w' ⟨rfl, rfl⟩
    exact ⟨1, by omega, rfl, ⟨a, 0, cap, rfl, by simp, by omega, .inl rfl⟩, .inl rfl⟩
  · obtain ⟨g, rfl, hg, hf, hr⟩ := h.resolve_left h0
    refine (markI_any g l.length cap w hl ⟨hr.1, fun j hj => ⟨by have := hr.2 j hj; rw [Nat.zero_add] at this; rw [this]; rfl, hf j hj⟩, fun i hi => by omega⟩).mono ?_
    rintro e w' ⟨rfl, hr', hgr⟩
    exact ⟨_, by omega, rfl, ⟨_, l.length, cap, rfl, rfl, hl, .inr ⟨g, rfl, hr'⟩⟩, .inr ⟨g, hg, hgr⟩⟩
end Go.Proofs.YtbcdfacbhemijaaDoor

/- Ops and models as plain values. -/
namespace Go.Proofs.YtbcdfacbhemijaaDoor
open Go.RowKit
structure O where
  c : Int
  a : Int
  b : Int
  k : Int
def oAt (l : List O) (i : Nat) : O := l.getD i ⟨0, 0, 0, 0⟩
def hAt (l : List (List O)) (i : Nat) : List O := l.getD i []
structure Md where
  n : Int
  s : Int
  i : List Int
  h : List (List O)
  e : List Ev
  z : Int
/- An op that may be, of a model with n parts and len handlers. -/
def okO (n len c a b k : Int) : Bool :=
  decide ((c = 0 ∧ 0 ≤ a ∧ a ≤ 1 ∧ 0 ≤ b ∧ b ≤ 999 ∧ k = 0) ∨ ((c = 1 ∨ c = 5) ∧ 0 ≤ a ∧ a ≤ 1 ∧ b = 0 ∧ k = 0) ∨ (c = 6 ∧ 0 ≤ a ∧ a ≤ 1 ∧ 1 ≤ b ∧ b ≤ 999 ∧ k = 0) ∨
    (c = 2 ∧ 0 ≤ a ∧ a < n ∧ 1 ≤ b ∧ b ≤ 50 ∧ 0 ≤ k ∧ k < len) ∨ (c = 3 ∧ 0 ≤ a ∧ a ≤ 1 ∧ 0 ≤ b ∧ b ≤ 999 ∧ 1 ≤ k ∧ k ≤ 8) ∨ (c = 4 ∧ 0 ≤ a ∧ a ≤ 3 ∧ 0 ≤ b ∧ b ≤ 1 ∧ k = 0))
def O.ok (n len : Int) (o : O) : Bool := okO n len o.c o.a o.b o.k
def O.cs (e : O) : List Value := [.int .i64 e.c, .int .i64 e.a, .int .i64 e.b, .int .i64 e.k]
abbrev O.val (e : O) : Value := .agg #[.int .i64 e.c, .int .i64 e.a, .int .i64 e.b, .int .i64 e.k]
def cellsO : List O → List Value
  | [] => []
  | e :: l => e.cs ++ cellsO l
theorem cellsO_length : ∀ l : List O, (cellsO l).length = l.length * 4
  | [] => rfl
  | e :: l => by simp [cellsO, cellsO_length l, O.cs]; omega
theorem cellsO_append : ∀ l l' : List O, cellsO (l ++ l') = cellsO l ++ cellsO l'
  | [], _ => rfl
  | e :: l, l' => by simp [cellsO, cellsO_append l l']
theorem oAt_cons_succ (e : O) (l : List O) (i : Nat) : oAt (e :: l) (i + 1) = oAt l i := by simp [oAt]
theorem cellsO_get : ∀ (l : List O) (i r : Nat), i < l.length → r < 4 → (cellsO l)[i * 4 + r]? = (oAt l i).cs[r]?
  | [], _, _, h, _ => by simp at h
  | e :: l, 0, r, _, hr => by
    have : r < e.cs.length := by simpa [O.cs] using hr
    simp only [cellsO, Nat.zero_mul, Nat.zero_add]
    rw [List.getElem?_append_left this]
    simp [oAt]
  | e :: l, i + 1, r, h, hr => by
    have h1 := cellsO_get l i r (by simpa using h) hr
    have : e.cs.length ≤ (i + 1) * 4 + r := by simp [O.cs]; omega
    simp only [cellsO]
    rw [List.getElem?_append_right this, oAt_cons_succ, ← h1]
    congr 1
    simp [O.cs]; omega
theorem cellsO_one (l : List O) : ∀ u ∈ cellsO l, u.oneCell' = true := by
  induction l with
  | nil => intro u h; cases h
  | cons e l ih =>
    intro u h
    rcases List.mem_append.1 h with h | h
    · simp [O.cs] at h
      rcases h with rfl | rfl | rfl | rfl <;> rfl
    · exact ih u h
end Go.Proofs.YtbcdfacbhemijaaDoor

/- Contracts of toEvent, within, l1num, Compare: plain values in, plain values out. -/
namespace Go.Proofs.YtbcdfacbhemijaaDoor
open Go.RowKit


theorem ret_bool {a b : Bool} (h : a = b) : Ending.returned (.bool a) = .returned (.bool b) := by rw [h]
theorem ret_int {k : IntKind} {a b : Int} (h : a = b) : Ending.returned (.int k a) = .returned (.int k b) := by rw [h]
theorem ret_dec {p : Prop} [Decidable p] {b : Bool} (h : p ↔ b = true) : Ending.returned (.bool (decide p)) = .returned (.bool b) := by
  rw [show decide p = b from by cases b <;> simp_all]

set_option maxHeartbeats 400000 in
theorem toEvent_any (t s q d k v g : Int) (w : World) :
    Calls Tryd.prog 52 #[.agg #[.int .i64 t, .int .i64 s, .int .i64 q, .int .i64 d, .int .i64 k, .int .i64 v, .int .i64 g]] w fun e w' =>
      e = .returned (.agg #[.int .i64 t, .int .i64 s, .int .i64 q, .int .i64 d, .int .i64 k, .int .i64 v, .int .i64 g]) ∧ Below w.heap.size w w' := by
  go_enter Tryd.func52, Tryd.ntmps52
  go_wp2
  exact bodyPost_ret (v := .agg #[.int .i64 t, .int .i64 s, .int .i64 q, .int .i64 d, .int .i64 k, .int .i64 v, .int .i64 g]) (by simp [results, Tryd.results52, go_sem]) rfl
    ⟨rfl, (((Below.refl _ _).alloc (Nat.le_refl _) _).alloc (by simp) _).alloc (by simp; omega) _⟩

set_option maxHeartbeats 400000 in
theorem within_any (x lo hi : Int) (w : World) :
    Calls Tryd.prog 53 #[.int .i64 x, .int .i64 lo, .int .i64 hi] w fun e w' =>
      e = .returned (.bool (decide (lo ≤ x) && decide (x ≤ hi))) ∧ w' = w := by
  go_enter Tryd.func53, Tryd.ntmps53
  go_wp2
  · go_ret
    exact ⟨ret_dec (by simp_all), rfl⟩
  · go_ret
    exact ⟨ret_bool (by simp; omega), rfl⟩

end Go.Proofs.YtbcdfacbhemijaaDoor

