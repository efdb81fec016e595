/- Pure, HeapT, NTurn, NInts, MPure, Base, Kit -/
import Derived.Test.YtmpoffepoafblaaGreatRows
import Derived.WalkKit
import Derived.Below
import Derived.OwnWalk
import Derived.Deep.RegionHeld3
import Derived.WalkSpells
import Derived.WalkLawsBesides
import Derived.Outline
/- Events and heaps of them as plain lists: lifting, sinking, taking out; what the library does and what the document says come to the same. -/
namespace Go.Proofs.YtmpoffepoafblaaGreat
def okB (t s q d k v g : Int) : Bool := decide (0 ≤ t ∧ t ≤ 1000 ∧ -1 ≤ s ∧ s ≤ 3 ∧ 0 ≤ q ∧ q ≤ 100000 ∧ 0 ≤ d ∧ d ≤ 3 ∧ 0 ≤ k ∧ k ≤ 3 ∧ 0 ≤ v ∧ v ≤ 999 ∧ 0 ≤ g ∧ g ≤ 100000)
def num (a b : Int) : Int := if a < b then -1 else if b < a then 1 else 0
def cmpI (t s q g t' s' q' g' : Int) : Int := if t ≠ t' then num t t' else if s ≠ s' then num s s' else if q ≠ q' then num q q' else num g g'
structure Ev where
  t : Int
  s : Int
  q : Int
  d : Int
  k : Int
  v : Int
  g : Int
def evAt (l : List Ev) (i : Nat) : Ev := l.getD i ⟨0, 0, 0, 0, 0, 0, 0⟩
def Ev.ok (e : Ev) : Bool := okB e.t e.s e.q e.d e.k e.v e.g
def Ev.cmp (a b : Ev) : Int := cmpI a.t a.s a.q a.g b.t b.s b.q b.g
theorem cmpI_lt (t s q g t' s' q' g' : Int) : cmpI t s q g t' s' q' g' < 0 ↔ t < t' ∨ (t = t' ∧ (s < s' ∨ (s = s' ∧ (q < q' ∨ (q = q' ∧ g < g'))))) := by
  unfold cmpI num
  split
  · split
    · omega
    · split <;> omega
  · split
    · split
      · omega
      · split <;> omega
    · split
      · split
        · omega
        · split <;> omega
      · split
        · omega
        · split <;> omega
theorem cmp_trans {a b c : Ev} (h : a.cmp b < 0) (k : b.cmp c < 0) : a.cmp c < 0 := by
  unfold Ev.cmp at *
  rw [cmpI_lt] at *
  omega
theorem cmp_neg {a b c : Ev} (h : ¬ a.cmp b < 0) (k : ¬ b.cmp c < 0) : ¬ a.cmp c < 0 := by
  unfold Ev.cmp at *
  rw [cmpI_lt] at *
  omega
theorem cmp_asymm {a b : Ev} (h : a.cmp b < 0) : ¬ b.cmp a < 0 := by
  unfold Ev.cmp at *
  rw [cmpI_lt] at *
  omega

theorem evAt_set (l : List Ev) (i j : Nat) (e : Ev) (h : i < l.length) : evAt (l.set i e) j = if i = j then e else evAt l j := by
  unfold evAt
  rw [List.getD_eq_getElem?_getD, List.getElem?_set]
  split
  · next h1 => subst h1; simp
  · simp
theorem evAt_left (l m : List Ev) (i : Nat) (h : i < l.length) : evAt (l ++ m) i = evAt l i := by
  unfold evAt
  rw [List.getD_eq_getElem?_getD, List.getD_eq_getElem?_getD, List.getElem?_append_left h]
theorem evAt_right (l m : List Ev) (i : Nat) : evAt (l ++ m) (l.length + i) = evAt m i := by
  unfold evAt
  rw [List.getD_eq_getElem?_getD, List.getD_eq_getElem?_getD, List.getElem?_append_right (by omega)]
  congr 2
  omega
theorem evAt_last (l : List Ev) (e : Ev) : evAt (l ++ [e]) l.length = e := by
  have := evAt_right l [e] 0
  rw [Nat.add_zero] at this
  exact this

/- Two places changed over. -/
def swp (l : List Ev) (i k : Nat) : List Ev := (l.set i (evAt l k)).set k (evAt l i)
theorem swp_length (l : List Ev) (i k : Nat) : (swp l i k).length = l.length := by simp [swp]
theorem evAt_swp (l : List Ev) (i k j : Nat) (hi : i < l.length) (hk : k < l.length) : evAt (swp l i k) j = if k = j then evAt l i else if i = j then evAt l k else evAt l j := by
  unfold swp
  rw [evAt_set _ _ _ _ (by simpa using hk), evAt_set _ _ _ _ hi]
theorem swp_append (l m : List Ev) (i k : Nat) (hi : i < l.length) (hk : k < l.length) : swp (l ++ m) i k = swp l i k ++ m := by
  unfold swp
  rw [evAt_left _ _ _ hi, evAt_left _ _ _ hk, List.set_append_left _ _ hi, List.set_append_left _ _ (by simpa using hk)]

theorem swp_comm (l : List Ev) (i k : Nat) : swp l i k = swp l k i := by
  unfold swp
  by_cases h : i = k
  · subst h; rfl
  · rw [List.set_comm _ _ h]

/- To lift. -/
def upL (l : List Ev) (i : Nat) : List Ev :=
  if h : 0 < i ∧ (evAt l i).cmp (evAt l ((i - 1) / 2)) < 0 then upL (swp l i ((i - 1) / 2)) ((i - 1) / 2) else l
termination_by i
decreasing_by omega
theorem upL_go {l : List Ev} {i : Nat} (h : 0 < i) (hc : (evAt l i).cmp (evAt l ((i - 1) / 2)) < 0) : upL l i = upL (swp l i ((i - 1) / 2)) ((i - 1) / 2) := by
  rw [upL, dif_pos ⟨h, hc⟩]
theorem upL_stop {l : List Ev} {i : Nat} (h : ¬ (0 < i ∧ (evAt l i).cmp (evAt l ((i - 1) / 2)) < 0)) : upL l i = l := by
  rw [upL, dif_neg h]
theorem upL_length (l : List Ev) (i : Nat) : (upL l i).length = l.length := by
  induction i using Nat.strongRecOn generalizing l with
  | _ i ih =>
    by_cases h : 0 < i ∧ (evAt l i).cmp (evAt l ((i - 1) / 2)) < 0
    · rw [upL_go h.1 h.2, ih _ (by omega), swp_length]
    · rw [upL_stop h]
theorem upL_append (l m : List Ev) (i : Nat) (hi : i < l.length) : upL (l ++ m) i = upL l i ++ m := by
  induction i using Nat.strongRecOn generalizing l with
  | _ i ih =>
    have hp : (i - 1) / 2 < l.length := by omega
    by_cases h : 0 < i ∧ (evAt l i).cmp (evAt l ((i - 1) / 2)) < 0
    · rw [upL_go h.1 h.2, upL_go h.1 (by rw [evAt_left _ _ _ hi, evAt_left _ _ _ hp]; exact h.2), swp_append _ _ _ _ hi hp, ih _ (by omega) _ (by rw [swp_length]; omega)]
    · rw [upL_stop h, upL_stop (by rw [evAt_left _ _ _ hi, evAt_left _ _ _ hp]; exact h)]

/- To sink, within the first n: the place that comes up. -/
def pickL (l : List Ev) (n i : Nat) : Nat :=
  if 2 * i + 2 < n ∧ (evAt l (2 * i + 2)).cmp (evAt l (if 2 * i + 1 < n ∧ (evAt l (2 * i + 1)).cmp (evAt l i) < 0 then 2 * i + 1 else i)) < 0 then 2 * i + 2
  else if 2 * i + 1 < n ∧ (evAt l (2 * i + 1)).cmp (evAt l i) < 0 then 2 * i + 1 else i
theorem pickL_or (l : List Ev) (n i : Nat) : pickL l n i = i ∨ (pickL l n i = 2 * i + 1 ∧ 2 * i + 1 < n) ∨ (pickL l n i = 2 * i + 2 ∧ 2 * i + 2 < n) := by
  unfold pickL
  generalize hz : (if 2 * i + 1 < n ∧ (evAt l (2 * i + 1)).cmp (evAt l i) < 0 then 2 * i + 1 else i) = z
  by_cases h1 : 2 * i + 2 < n ∧ (evAt l (2 * i + 2)).cmp (evAt l z) < 0
  · rw [if_pos h1]; omega
  · rw [if_neg h1, ← hz]
    by_cases h2 : 2 * i + 1 < n ∧ (evAt l (2 * i + 1)).cmp (evAt l i) < 0
    · rw [if_pos h2]; omega
    · rw [if_neg h2]; omega
theorem pickL_cases (l : List Ev) (n i : Nat) : pickL l n i = i ∨ (i < pickL l n i ∧ pickL l n i < n) := by
  have := pickL_or l n i
  omega
def downL (l : List Ev) (n i : Nat) : List Ev :=
  if _h : i < pickL l n i then downL (swp l i (pickL l n i)) n (pickL l n i) else l
termination_by n - i
decreasing_by
  have := pickL_cases l n i
  omega
theorem downL_go {l : List Ev} {n i : Nat} (h : pickL l n i ≠ i) : downL l n i = downL (swp l i (pickL l n i)) n (pickL l n i) := by
  rw [downL, dif_pos (by have := pickL_cases l n i; omega)]
theorem downL_stop {l : List Ev} {n i : Nat} (h : pickL l n i = i) : downL l n i = l := by
  rw [downL, dif_neg (by omega)]
theorem downL_length (l : List Ev) (n i : Nat) : (downL l n i).length = l.length := by
  generalize hm : n - i = m
  induction m using Nat.strongRecOn generalizing l i with
  | _ m ih =>
    by_cases h : pickL l n i = i
    · rw [downL_stop h]
    · rw [downL_go h, ih _ (by have := pickL_cases l n i; omega) _ _ rfl, swp_length]
theorem pickL_append (l m : List Ev) (i : Nat) (hi : i < l.length) : pickL (l ++ m) l.length i = pickL l l.length i := by
  unfold pickL
  by_cases h1 : 2 * i + 1 < l.length
  · rw [evAt_left _ _ _ hi, evAt_left _ _ _ h1]
    by_cases h2 : 2 * i + 2 < l.length
    · rw [evAt_left _ _ _ h2]
      congr 3
      · split
        · rw [evAt_left _ _ _ h1]
        · rw [evAt_left _ _ _ hi]
    · simp [h2]
  · simp [h1, show ¬ 2 * i + 2 < l.length from by omega]
theorem downL_append (l m : List Ev) (i : Nat) (hi : i < l.length) : downL (l ++ m) l.length i = downL l l.length i ++ m := by
  generalize hm : l.length - i = k
  induction k using Nat.strongRecOn generalizing l i with
  | _ k ih =>
    by_cases h : pickL l l.length i = i
    · rw [downL_stop h, downL_stop (by rw [pickL_append _ _ _ hi]; exact h)]
    · have hc := (pickL_cases l l.length i).resolve_left h
      rw [downL_go h, downL_go (by rw [pickL_append _ _ _ hi]; exact h), pickL_append _ _ _ hi, swp_append _ _ _ _ hi hc.2]
      have := ih (l.length - pickL l l.length i) (by omega) (swp l i (pickL l l.length i)) (pickL l l.length i) (by rw [swp_length]; exact hc.2) (by rw [swp_length])
      rw [swp_length] at this
      exact this
/- Sinking leaves alone what is ahead of its place. -/
theorem downL_ahead (l : List Ev) (n i j : Nat) (hn : n ≤ l.length) (hi : i < n) (hj : j < i) : evAt (downL l n i) j = evAt l j := by
  generalize hm : n - i = m
  induction m using Nat.strongRecOn generalizing l i with
  | _ m ih =>
    by_cases h : pickL l n i = i
    · rw [downL_stop h]
    · have hc := (pickL_cases l n i).resolve_left h
      rw [downL_go h, ih (n - pickL l n i) (by omega) (swp l i (pickL l n i)) (pickL l n i) (by rw [swp_length]; exact hn) hc.2 (by omega) rfl, evAt_swp _ _ _ _ (by omega) (by omega), if_neg (by omega), if_neg (by omega)]
/- ... and at its place leaves the one that came up. -/
theorem downL_at (l : List Ev) (n i : Nat) (hn : n ≤ l.length) (hi : i < n) : evAt (downL l n i) i = evAt l (pickL l n i) := by
  by_cases h : pickL l n i = i
  · rw [downL_stop h, h]
  · have hc := (pickL_cases l n i).resolve_left h
    rw [downL_go h, downL_ahead _ _ _ _ (by rw [swp_length]; exact hn) hc.2 hc.1, evAt_swp _ _ _ _ (by omega) (by omega), if_neg (by omega), if_pos rfl]

/- What stays of all that is in a list when places are changed over. -/
def Kept (P : Ev → Prop) (l : List Ev) : Prop := ∀ j, j < l.length → P (evAt l j)
theorem kept_swp {P : Ev → Prop} {l : List Ev} {i k : Nat} (hi : i < l.length) (hk : k < l.length) : Kept P (swp l i k) ↔ Kept P l := by
  constructor
  · intro h j hj
    by_cases h1 : i = j
    · subst h1
      have := h k (by rw [swp_length]; exact hk)
      rwa [evAt_swp _ _ _ _ hi hk, if_pos rfl] at this
    · by_cases h2 : k = j
      · subst h2
        have := h i (by rw [swp_length]; exact hi)
        rwa [evAt_swp _ _ _ _ hi hk, if_neg (by omega), if_pos rfl] at this
      · have := h j (by rw [swp_length]; exact hj)
        rwa [evAt_swp _ _ _ _ hi hk, if_neg h2, if_neg h1] at this
  · intro h j hj
    rw [swp_length] at hj
    rw [evAt_swp _ _ _ _ hi hk]
    split
    · exact h i hi
    · split
      · exact h k hk
      · exact h j hj
theorem kept_upL {P : Ev → Prop} {l : List Ev} {i : Nat} (hi : i < l.length) : Kept P (upL l i) ↔ Kept P l := by
  induction i using Nat.strongRecOn generalizing l with
  | _ i ih =>
    by_cases h : 0 < i ∧ (evAt l i).cmp (evAt l ((i - 1) / 2)) < 0
    · rw [upL_go h.1 h.2, ih _ (by omega) (by rw [swp_length]; omega), kept_swp hi (by omega)]
    · rw [upL_stop h]
theorem kept_downL {P : Ev → Prop} {l : List Ev} {n i : Nat} (hn : n ≤ l.length) (hi : i < n) : Kept P (downL l n i) ↔ Kept P l := by
  generalize hm : n - i = m
  induction m using Nat.strongRecOn generalizing l i with
  | _ m ih =>
    by_cases h : pickL l n i = i
    · rw [downL_stop h]
    · have hc := (pickL_cases l n i).resolve_left h
      rw [downL_go h, ih (n - pickL l n i) (by omega) (by rw [swp_length]; exact hn) hc.2 rfl, kept_swp (by omega) (by omega)]
theorem kept_snoc {P : Ev → Prop} {l : List Ev} {e : Ev} : Kept P (l ++ [e]) ↔ Kept P l ∧ P e := by
  constructor
  · intro h
    refine ⟨fun j hj => ?_, ?_⟩
    · have := h j (by simp; omega)
      rwa [evAt_left _ _ _ hj] at this
    · have := h l.length (by simp)
      rwa [evAt_last] at this
  · rintro ⟨h1, h2⟩ j hj
    simp at hj
    by_cases e1 : j = l.length
    · subst e1; rw [evAt_last]; exact h2
    · rw [evAt_left _ _ _ (by omega)]; exact h1 j (by omega)

/- The document's push and take. -/
def pushL (l : List Ev) (e : Ev) : List Ev := upL (l ++ [e]) l.length
theorem pushL_length (l : List Ev) (e : Ev) : (pushL l e).length = l.length + 1 := by simp [pushL, upL_length]
theorem kept_pushL {P : Ev → Prop} {l : List Ev} {e : Ev} : Kept P (pushL l e) ↔ Kept P l ∧ P e := by
  unfold pushL
  rw [kept_upL (by simp), kept_snoc]
def cutL (l : List Ev) (i : Nat) : List Ev := (l.set i (evAt l (l.length - 1))).take (l.length - 1)
theorem cutL_length (l : List Ev) (i : Nat) : (cutL l i).length = l.length - 1 := by simp [cutL]
def takeL (l : List Ev) (i : Nat) : List Ev := if i < l.length - 1 then upL (downL (cutL l i) (l.length - 1) i) i else cutL l i
theorem takeL_length (l : List Ev) (i : Nat) : (takeL l i).length = l.length - 1 := by
  unfold takeL
  split
  · rw [upL_length, downL_length, cutL_length]
  · rw [cutL_length]
theorem evAt_take (l : List Ev) (k i : Nat) (h : i < k) : evAt (l.take k) i = evAt l i := by simp [evAt, List.getElem?_take_of_lt h]
theorem evAt_drop (l : List Ev) (k i : Nat) : evAt (l.drop k) i = evAt l (k + i) := by simp [evAt]
theorem ext_ev {l m : List Ev} (h : l.length = m.length) (hh : ∀ j, j < l.length → evAt l j = evAt m j) : l = m := by
  apply List.ext_getElem h
  intro j h1 h2
  have := hh j h1
  simpa [evAt, h1, h2] using this
/- The list with the last one changed over into place i: what is cut, and the one that goes. -/
theorem swp_cut (l : List Ev) (i : Nat) (hi : i < l.length) : swp l i (l.length - 1) = cutL l i ++ [evAt l i] := by
  have hc := cutL_length l i
  refine ext_ev (by rw [swp_length, List.length_append, hc, List.length_singleton]; omega) (fun j hj => ?_)
  rw [swp_length] at hj
  rw [evAt_swp _ _ _ _ hi (by omega)]
  by_cases h1 : l.length - 1 = j
  · rw [if_pos h1]
    subst h1
    have := evAt_last (cutL l i) (evAt l i)
    rw [hc] at this
    exact this.symm
  · rw [if_neg h1, evAt_left _ _ _ (by rw [hc]; omega)]
    unfold cutL
    rw [evAt_take _ _ _ (by omega), evAt_set _ _ _ _ hi]
theorem take_left (l m : List Ev) (n : Nat) (h : n = l.length) : (l ++ m).take n = l := by subst h; simp
/- The library's pop. -/
theorem pop_same (l : List Ev) (h : 0 < l.length) : (downL (swp l 0 (l.length - 1)) (l.length - 1) 0).take (l.length - 1) = takeL l 0 ∧ evAt (downL (swp l 0 (l.length - 1)) (l.length - 1) 0) (l.length - 1) = evAt l 0 := by
  rw [swp_cut _ _ h]
  have hc := cutL_length l 0
  unfold takeL
  by_cases h1 : 0 < l.length - 1
  · rw [if_pos h1]
    have hd := downL_append (cutL l 0) [evAt l 0] 0 (by omega)
    rw [hc] at hd
    rw [hd, take_left _ _ _ (by rw [downL_length, hc]), upL_stop (by omega)]
    refine ⟨rfl, ?_⟩
    have := evAt_last (downL (cutL l 0) (l.length - 1) 0) (evAt l 0)
    rw [downL_length, hc] at this
    exact this
  · rw [if_neg h1]
    have hd : downL (cutL l 0 ++ [evAt l 0]) (l.length - 1) 0 = cutL l 0 ++ [evAt l 0] := downL_stop (by unfold pickL; rw [if_neg (by omega), if_neg (by omega)])
    rw [hd, take_left _ _ _ hc.symm]
    refine ⟨rfl, ?_⟩
    have := evAt_last (cutL l 0) (evAt l 0)
    rw [hc] at this
    exact this
/- A heap: each behind the one above it. -/
def HeapL (l : List Ev) : Prop := ∀ i, 0 < i → i < l.length → (evAt l ((i - 1) / 2)).cmp (evAt l i) < 0
/- The library's removal. -/
theorem remove_same (l : List Ev) (i : Nat) (hh : HeapL l) (hi : i < l.length - 1) :
    ((if pickL (swp l i (l.length - 1)) (l.length - 1) i ≠ i then downL (swp l i (l.length - 1)) (l.length - 1) i else upL (downL (swp l i (l.length - 1)) (l.length - 1) i) i).take (l.length - 1) = takeL l i) := by
  rw [swp_cut _ _ (by omega)]
  have hc := cutL_length l i
  have hp := pickL_append (cutL l i) [evAt l i] i (by omega)
  have hd := downL_append (cutL l i) [evAt l i] i (by omega)
  rw [hc] at hd hp
  rw [hd, hp]
  unfold takeL
  rw [if_pos hi]
  split
  · next hm =>
    rw [take_left _ _ _ (by rw [downL_length, hc])]
    refine (upL_stop ?_).symm
    rintro ⟨h0, h1⟩
    rw [downL_at _ _ _ (by omega) hi, downL_ahead _ _ _ _ (by omega) hi (by omega)] at h1
    have hk := (pickL_cases (cutL l i) (l.length - 1) i).resolve_left hm
    have hpar : (pickL (cutL l i) (l.length - 1) i - 1) / 2 = i := by
      have := pickL_or (cutL l i) (l.length - 1) i
      omega
    have e1 : ∀ j, j < l.length - 1 → j ≠ i → evAt (cutL l i) j = evAt l j := fun j hj hne => by
      unfold cutL
      rw [evAt_take _ _ _ hj, evAt_set _ _ _ _ (by omega), if_neg (by omega)]
    rw [e1 _ hk.2 (by omega), e1 _ (by omega) (by omega)] at h1
    have h2 := hh i h0 (by omega)
    have h3 := hh (pickL (cutL l i) (l.length - 1) i) (by omega) (by omega)
    rw [hpar] at h3
    exact cmp_asymm (cmp_trans h2 h3) h1
  · rw [upL_append _ _ _ (by rw [downL_length, hc]; exact hi), take_left _ _ _ (by rw [upL_length, downL_length, hc])]
theorem takeL_last (l : List Ev) : takeL l (l.length - 1) = l.take (l.length - 1) := by
  unfold takeL cutL
  rw [if_neg (by omega), List.take_set_of_le (Nat.le_refl _)]
/- The library's way to tell which comes up. -/
theorem pick_lib (l : List Ev) (n i : Nat) : pickL l n i =
    if 2 * i + 1 < n then
      (if 2 * i + 2 < n ∧ (evAt l (2 * i + 2)).cmp (evAt l (2 * i + 1)) < 0 then (if (evAt l (2 * i + 2)).cmp (evAt l i) < 0 then 2 * i + 2 else i)
       else (if (evAt l (2 * i + 1)).cmp (evAt l i) < 0 then 2 * i + 1 else i))
    else i := by
  unfold pickL
  by_cases h1 : 2 * i + 1 < n
  · by_cases h2 : 2 * i + 2 < n
    · by_cases a : (evAt l (2 * i + 1)).cmp (evAt l i) < 0
      · by_cases b : (evAt l (2 * i + 2)).cmp (evAt l (2 * i + 1)) < 0
        · have := cmp_trans b a
          simp [h1, h2, a, b, this]
        · simp [h1, h2, a, b]
      · by_cases b : (evAt l (2 * i + 2)).cmp (evAt l (2 * i + 1)) < 0
        · simp [h1, h2, a, b]
        · have := cmp_neg b a
          simp [h1, h2, a, b, this]
    · simp [h1, h2]
  · simp [h1, show ¬ 2 * i + 2 < n from by omega]
end Go.Proofs.YtmpoffepoafblaaGreat

/- Heaps as plain lists: lifting and sinking leave a heap; what is popped first is ahead of all; what is popped one behind the other is in order; two orders of the same events are one. -/
namespace Go.Proofs.YtmpoffepoafblaaGreat

/- a is not behind b. -/
def Le (a b : Ev) : Prop := ¬ b.cmp a < 0
theorem Le.trans {a b c : Ev} (h : Le a b) (k : Le b c) : Le a c := cmp_neg k h
theorem Le.of_lt {a b : Ev} (h : a.cmp b < 0) : Le a b := cmp_asymm h
theorem Le.refl (a : Ev) : Le a a := fun h => cmp_asymm h h
theorem Le.lt {a b : Ev} (h : Le a b) (hg : a.g ≠ b.g) : a.cmp b < 0 := by
  unfold Le Ev.cmp at *
  rw [cmpI_lt] at *
  omega
def HeapW (l : List Ev) : Prop := ∀ i, 0 < i → i < l.length → Le (evAt l ((i - 1) / 2)) (evAt l i)
def Uni (l : List Ev) : Prop := ∀ i j, i < l.length → j < l.length → (evAt l i).g = (evAt l j).g → i = j

/- Lifting. -/
def UpAt (l : List Ev) (i : Nat) : Prop := (∀ j, 0 < j → j < l.length → j ≠ i → Le (evAt l ((j - 1) / 2)) (evAt l j)) ∧ (0 < i → ∀ j, 0 < j → j < l.length → (j - 1) / 2 = i → Le (evAt l ((i - 1) / 2)) (evAt l j))
theorem up_heap (l : List Ev) (i : Nat) (hi : i < l.length) (h : UpAt l i) : HeapW (upL l i) := by
  induction i using Nat.strongRecOn generalizing l with
  | _ i ih =>
    obtain ⟨h1, h2⟩ := h
    by_cases hc : 0 < i ∧ (evAt l i).cmp (evAt l ((i - 1) / 2)) < 0
    · rw [upL_go hc.1 hc.2]
      obtain ⟨h0, hlt⟩ := hc
      generalize hp : (i - 1) / 2 = p at hlt h2 ⊢
      have hpi : p < i := by omega
      have hsw : ∀ j, evAt (swp l i p) j = if p = j then evAt l i else if i = j then evAt l p else evAt l j := fun j => evAt_swp l i p j hi (by omega)
      refine ih p hpi _ (by rw [swp_length]; omega) ⟨fun j hj0 hj hjp => ?_, fun hp0 j hj0 hj hjp => ?_⟩
      · rw [swp_length] at hj
        by_cases hji : j = i
        · subst hji
          rw [hp, hsw p, if_pos rfl, hsw j, if_neg (by omega), if_pos rfl]
          exact Le.of_lt hlt
        · rw [hsw j, if_neg (by omega), if_neg (by omega)]
          by_cases hq : (j - 1) / 2 = p
          · rw [hq, hsw p, if_pos rfl]
            have := h1 j hj0 hj hji
            rw [hq] at this
            exact (Le.of_lt hlt).trans this
          · by_cases hq' : (j - 1) / 2 = i
            · rw [hq', hsw i, if_neg (by omega), if_pos rfl]
              exact h2 h0 j hj0 hj hq'
            · rw [hsw, if_neg (by omega), if_neg (by omega)]
              exact h1 j hj0 hj hji
      · rw [swp_length] at hj
        rw [hsw ((p - 1) / 2), if_neg (by omega), if_neg (by omega)]
        have hpp := h1 p hp0 (by omega) (by omega)
        by_cases hji : j = i
        · subst hji
          rw [hsw j, if_neg (by omega), if_pos rfl]
          exact hpp
        · rw [hsw j, if_neg (by omega), if_neg (by omega)]
          have := h1 j hj0 hj hji
          rw [hjp] at this
          exact hpp.trans this
    · rw [upL_stop hc]
      intro j hj0 hj
      by_cases hji : j = i
      · subst hji
        exact fun h => hc ⟨hj0, h⟩
      · exact h1 j hj0 hj hji
theorem push_heap {l : List Ev} {e : Ev} (h : HeapW l) : HeapW (pushL l e) := by
  unfold pushL
  refine up_heap _ _ (by simp) ⟨fun j hj0 hj hji => ?_, fun h0 j hj0 hj hji => ?_⟩
  · simp at hj
    rw [evAt_left _ _ _ (by omega), evAt_left _ _ _ (by omega)]
    exact h j hj0 (by omega)
  · simp at hj
    omega

/- Sinking. -/
theorem pick_min (l : List Ev) (n i : Nat) : (pickL l n i = i ∨ ((pickL l n i = 2 * i + 1 ∨ pickL l n i = 2 * i + 2) ∧ pickL l n i < n ∧ (evAt l (pickL l n i)).cmp (evAt l i) < 0)) ∧ ∀ j, (j = 2 * i + 1 ∨ j = 2 * i + 2) → j < n → Le (evAt l (pickL l n i)) (evAt l j) := by
  unfold pickL
  by_cases h1 : 2 * i + 1 < n ∧ (evAt l (2 * i + 1)).cmp (evAt l i) < 0
  · rw [if_pos h1]
    by_cases h2 : 2 * i + 2 < n ∧ (evAt l (2 * i + 2)).cmp (evAt l (2 * i + 1)) < 0
    · rw [if_pos h2]
      refine ⟨.inr ⟨.inr rfl, h2.1, cmp_trans h2.2 h1.2⟩, fun j hj hn => ?_⟩
      rcases hj with rfl | rfl
      · exact Le.of_lt h2.2
      · exact Le.refl _
    · rw [if_neg h2]
      refine ⟨.inr ⟨.inl rfl, h1.1, h1.2⟩, fun j hj hn => ?_⟩
      rcases hj with rfl | rfl
      · exact Le.refl _
      · exact fun h => h2 ⟨hn, h⟩
  · rw [if_neg h1]
    by_cases h2 : 2 * i + 2 < n ∧ (evAt l (2 * i + 2)).cmp (evAt l i) < 0
    · rw [if_pos h2]
      refine ⟨.inr ⟨.inr rfl, h2.1, h2.2⟩, fun j hj hn => ?_⟩
      rcases hj with rfl | rfl
      · exact (Le.of_lt h2.2).trans (fun h => h1 ⟨hn, h⟩)
      · exact Le.refl _
    · rw [if_neg h2]
      refine ⟨.inl rfl, fun j hj hn => ?_⟩
      rcases hj with rfl | rfl
      · exact fun h => h1 ⟨hn, h⟩
      · exact fun h => h2 ⟨hn, h⟩
def BothAt (l : List Ev) (i : Nat) : Prop := (∀ j, 0 < j → j < l.length → j ≠ i → (j - 1) / 2 ≠ i → Le (evAt l ((j - 1) / 2)) (evAt l j)) ∧ (0 < i → ∀ j, 0 < j → j < l.length → (j - 1) / 2 = i → Le (evAt l ((i - 1) / 2)) (evAt l j))
def DownAt (l : List Ev) (i : Nat) : Prop := (∀ j, 0 < j → j < l.length → (j - 1) / 2 ≠ i → Le (evAt l ((j - 1) / 2)) (evAt l j)) ∧ (0 < i → ∀ j, 0 < j → j < l.length → (j - 1) / 2 = i → Le (evAt l ((i - 1) / 2)) (evAt l j))
theorem DownAt.both {l : List Ev} {i : Nat} (h : DownAt l i) : BothAt l i := ⟨fun j h0 h1 _ h3 => h.1 j h0 h1 h3, h.2⟩
theorem both_go {l : List Ev} {i : Nat} (hi : i < l.length) (h : BothAt l i) (hk : pickL l l.length i ≠ i) : DownAt (swp l i (pickL l l.length i)) (pickL l l.length i) := by
  obtain ⟨h1, h2⟩ := h
  obtain ⟨hm1, hm2⟩ := pick_min l l.length i
  obtain ⟨hk2, hkn, hlt⟩ := hm1.resolve_left hk
  generalize pickL l l.length i = k at hk hk2 hkn hlt hm2 ⊢
  have hpk : (k - 1) / 2 = i := by omega
  have hsw : ∀ j, evAt (swp l i k) j = if k = j then evAt l i else if i = j then evAt l k else evAt l j := fun j => evAt_swp l i k j hi hkn
  refine ⟨fun j hj0 hj hjk => ?_, fun hk0 j hj0 hj hjk => ?_⟩
  · rw [swp_length] at hj
    by_cases hj1 : j = k
    · subst hj1
      rw [hpk, hsw i, if_neg (by omega), if_pos rfl, hsw j, if_pos rfl]
      exact Le.of_lt hlt
    · by_cases hj2 : j = i
      · subst hj2
        rw [hsw j, if_neg (by omega), if_pos rfl, hsw ((j - 1) / 2), if_neg (by omega), if_neg (by omega)]
        exact h2 hj0 k (by omega) hkn hpk
      · rw [hsw j, if_neg (by omega), if_neg (by omega)]
        by_cases hq : (j - 1) / 2 = i
        · rw [hq, hsw i, if_neg (by omega), if_pos rfl]
          exact hm2 j (by omega) hj
        · rw [hsw, if_neg (by omega), if_neg (by omega)]
          exact h1 j hj0 hj hj2 hq
  · rw [swp_length] at hj
    rw [hpk, hsw i, if_neg (by omega), if_pos rfl, hsw j, if_neg (by omega), if_neg (by omega)]
    have := h1 j hj0 hj (by omega) (by omega)
    rw [hjk] at this
    exact this
theorem down_heap (l : List Ev) (i : Nat) (hi : i < l.length) (h : DownAt l i) : HeapW (downL l l.length i) := by
  generalize hm : l.length - i = m
  induction m using Nat.strongRecOn generalizing l i with
  | _ m ih =>
    by_cases hk : pickL l l.length i = i
    · rw [downL_stop hk]
      have hm2 := (pick_min l l.length i).2
      rw [hk] at hm2
      intro j hj0 hj
      by_cases hq : (j - 1) / 2 = i
      · rw [hq]; exact hm2 j (by omega) hj
      · exact h.1 j hj0 hj hq
    · have hc := (pickL_cases l l.length i).resolve_left hk
      rw [downL_go hk]
      have h3 := ih (l.length - pickL l l.length i) (by omega) (swp l i (pickL l l.length i)) (pickL l l.length i) (by rw [swp_length]; exact hc.2) (both_go hi h.both hk) (by rw [swp_length])
      rw [swp_length] at h3
      exact h3
theorem cut_at (l : List Ev) (i j : Nat) (hi : i < l.length) (hj : j < l.length - 1) : evAt (cutL l i) j = if i = j then evAt l (l.length - 1) else evAt l j := by
  unfold cutL
  rw [evAt_take _ _ _ hj, evAt_set _ _ _ _ hi]
theorem cut_both {l : List Ev} {i : Nat} (h : HeapW l) (hi : i < l.length - 1) : BothAt (cutL l i) i := by
  have hc := cutL_length l i
  refine ⟨fun j hj0 hj hji hq => ?_, fun h0 j hj0 hj hq => ?_⟩
  · rw [hc] at hj
    rw [cut_at _ _ _ (by omega) (by omega), cut_at _ _ _ (by omega) hj, if_neg (by omega), if_neg (by omega)]
    exact h j hj0 (by omega)
  · rw [hc] at hj
    rw [cut_at _ _ _ (by omega) (by omega), cut_at _ _ _ (by omega) hj, if_neg (by omega), if_neg (by omega)]
    have a := h i h0 (by omega)
    have b := h j hj0 (by omega)
    rw [hq] at b
    exact a.trans b
theorem take_heap {l : List Ev} {i : Nat} (h : HeapW l) (hi : i < l.length) : HeapW (takeL l i) := by
  have hc := cutL_length l i
  unfold takeL
  by_cases h1 : i < l.length - 1
  · rw [if_pos h1]
    have hb := cut_both h h1
    rw [← hc] at h1 ⊢
    by_cases hk : pickL (cutL l i) (cutL l i).length i = i
    · rw [downL_stop hk]
      have hm2 := (pick_min (cutL l i) (cutL l i).length i).2
      rw [hk] at hm2
      refine up_heap _ _ h1 ⟨fun j hj0 hj hji => ?_, hb.2⟩
      by_cases hq : (j - 1) / 2 = i
      · rw [hq]; exact hm2 j (by omega) hj
      · exact hb.1 j hj0 hj hji hq
    · have hk2 := (pickL_cases (cutL l i) (cutL l i).length i).resolve_left hk
      have hd : HeapW (downL (cutL l i) (cutL l i).length i) := by
        rw [downL_go hk]
        have h3 := down_heap (swp (cutL l i) i (pickL (cutL l i) (cutL l i).length i)) (pickL (cutL l i) (cutL l i).length i) (by rw [swp_length]; exact hk2.2) (both_go h1 hb hk)
        rw [swp_length] at h3
        exact h3
      rw [upL_stop (fun hu => hd i hu.1 (by rw [downL_length]; exact h1) hu.2)]
      exact hd
  · rw [if_neg h1]
    intro j hj0 hj
    rw [hc] at hj
    rw [cut_at _ _ _ hi (by omega), cut_at _ _ _ hi hj, if_neg (by omega), if_neg (by omega)]
    exact h j hj0 (by omega)
/- The first one is ahead of all. -/
theorem heap_first {l : List Ev} (h : HeapW l) (i : Nat) (hi : i < l.length) : Le (evAt l 0) (evAt l i) := by
  induction i using Nat.strongRecOn with
  | _ i ih =>
    by_cases h0 : i = 0
    · subst h0; exact Le.refl _
    · exact (ih ((i - 1) / 2) (by omega) (by omega)).trans (h i (by omega) hi)
/- Tags that differ. -/
theorem uni_swp {l : List Ev} {i k : Nat} (hi : i < l.length) (hk : k < l.length) (h : Uni l) : Uni (swp l i k) := by
  intro a b ha hb hg
  rw [swp_length] at ha hb
  rw [evAt_swp _ _ _ _ hi hk, evAt_swp _ _ _ _ hi hk] at hg
  by_cases a1 : k = a
  · rw [if_pos a1] at hg
    by_cases b1 : k = b
    · omega
    · rw [if_neg b1] at hg
      by_cases b2 : i = b
      · rw [if_pos b2] at hg
        have := h _ _ hi hk hg
        omega
      · rw [if_neg b2] at hg
        have := h _ _ hi hb hg
        omega
  · rw [if_neg a1] at hg
    by_cases a2 : i = a
    · rw [if_pos a2] at hg
      by_cases b1 : k = b
      · rw [if_pos b1] at hg
        have := h _ _ hk hi hg
        omega
      · rw [if_neg b1] at hg
        by_cases b2 : i = b
        · omega
        · rw [if_neg b2] at hg
          have := h _ _ hk hb hg
          omega
    · rw [if_neg a2] at hg
      by_cases b1 : k = b
      · rw [if_pos b1] at hg
        have := h _ _ ha hi hg
        omega
      · rw [if_neg b1] at hg
        by_cases b2 : i = b
        · rw [if_pos b2] at hg
          have := h _ _ ha hk hg
          omega
        · rw [if_neg b2] at hg
          exact h _ _ ha hb hg
theorem uni_up {l : List Ev} {i : Nat} (hi : i < l.length) (h : Uni l) : Uni (upL l i) := by
  induction i using Nat.strongRecOn generalizing l with
  | _ i ih =>
    by_cases hc : 0 < i ∧ (evAt l i).cmp (evAt l ((i - 1) / 2)) < 0
    · rw [upL_go hc.1 hc.2]
      exact ih _ (by omega) (by rw [swp_length]; omega) (uni_swp hi (by omega) h)
    · rw [upL_stop hc]; exact h
theorem uni_down {l : List Ev} {n i : Nat} (hn : n ≤ l.length) (hi : i < n) (h : Uni l) : Uni (downL l n i) := by
  generalize hm : n - i = m
  induction m using Nat.strongRecOn generalizing l i with
  | _ m ih =>
    by_cases hk : pickL l n i = i
    · rw [downL_stop hk]; exact h
    · have hc := (pickL_cases l n i).resolve_left hk
      rw [downL_go hk]
      exact ih (n - pickL l n i) (by omega) (by rw [swp_length]; exact hn) hc.2 (uni_swp (by omega) (by omega) h) rfl
theorem uni_snoc {l : List Ev} {e : Ev} (h : Uni l) (he : ∀ j, j < l.length → (evAt l j).g ≠ e.g) : Uni (l ++ [e]) := by
  intro a b ha hb hg
  simp at ha hb
  by_cases a1 : a = l.length
  · by_cases b1 : b = l.length
    · omega
    · rw [a1, evAt_last, evAt_left _ _ _ (by omega)] at hg
      exact absurd hg.symm (he b (by omega))
  · by_cases b1 : b = l.length
    · rw [b1, evAt_last, evAt_left _ _ _ (by omega)] at hg
      exact absurd hg (he a (by omega))
    · rw [evAt_left _ _ _ (by omega), evAt_left _ _ _ (by omega)] at hg
      exact h a b (by omega) (by omega) hg
theorem uni_push {l : List Ev} {e : Ev} (h : Uni l) (he : ∀ j, j < l.length → (evAt l j).g ≠ e.g) : Uni (pushL l e) := uni_up (by simp) (uni_snoc h he)
theorem uni_cut {l : List Ev} {i : Nat} (hi : i < l.length) (h : Uni l) : Uni (cutL l i) := by
  intro a b ha hb hg
  rw [cutL_length] at ha hb
  rw [cut_at _ _ _ hi ha, cut_at _ _ _ hi hb] at hg
  by_cases a1 : i = a
  · rw [if_pos a1] at hg
    by_cases b1 : i = b
    · omega
    · rw [if_neg b1] at hg
      have := h _ _ (by omega) (by omega) hg
      omega
  · rw [if_neg a1] at hg
    by_cases b1 : i = b
    · rw [if_pos b1] at hg
      have := h _ _ (by omega) (by omega) hg
      omega
    · rw [if_neg b1] at hg
      exact h _ _ (by omega) (by omega) hg
theorem uni_take {l : List Ev} {i : Nat} (hi : i < l.length) (h : Uni l) : Uni (takeL l i) := by
  unfold takeL
  by_cases h1 : i < l.length - 1
  · rw [if_pos h1]
    exact uni_up (by rw [downL_length, cutL_length]; exact h1) (uni_down (by rw [cutL_length]; omega) h1 (uni_cut hi h))
  · rw [if_neg h1]; exact uni_cut hi h
/- What is there. -/
def InL (e : Ev) (l : List Ev) : Prop := ∃ j, j < l.length ∧ evAt l j = e
theorem inL_kept {e : Ev} {l : List Ev} : InL e l ↔ ¬ Kept (fun x => x ≠ e) l := by
  constructor
  · rintro ⟨j, hj, he⟩ h
    exact h j hj he
  · intro h
    refine Classical.byContradiction fun hn => h fun j hj he => hn ⟨j, hj, he⟩
theorem inL_push {e x : Ev} {l : List Ev} : InL e (pushL l x) ↔ InL e l ∨ e = x := by
  rw [inL_kept, kept_pushL, inL_kept]
  constructor
  · intro h
    by_cases h1 : Kept (fun y => y ≠ e) l
    · by_cases h2 : e = x
      · exact .inr h2
      · exact absurd ⟨h1, fun hh => h2 hh.symm⟩ h
    · exact .inl h1
  · rintro (h | h) ⟨h1, h2⟩
    · exact h h1
    · exact h2 h.symm
theorem inL_cut {e : Ev} {l : List Ev} {i : Nat} (hi : i < l.length) (h : Uni l) : InL e (cutL l i) ↔ InL e l ∧ e ≠ evAt l i := by
  constructor
  · rintro ⟨j, hj, he⟩
    rw [cutL_length] at hj
    rw [cut_at _ _ _ hi hj] at he
    by_cases h1 : i = j
    · rw [if_pos h1] at he
      exact ⟨⟨_, by omega, he⟩, fun hh => by
        have := h (l.length - 1) i (by omega) hi (by rw [he, hh])
        omega⟩
    · rw [if_neg h1] at he
      exact ⟨⟨j, by omega, he⟩, fun hh => h1 (h i j hi (by omega) (by rw [he, hh]))⟩
  · rintro ⟨⟨j, hj, he⟩, hne⟩
    have hji : i ≠ j := fun hh => hne (by rw [hh, he])
    by_cases h1 : j = l.length - 1
    · exact ⟨i, by rw [cutL_length]; omega, by rw [cut_at _ _ _ hi (by omega), if_pos rfl, ← h1, he]⟩
    · exact ⟨j, by rw [cutL_length]; omega, by rw [cut_at _ _ _ hi (by omega), if_neg hji, he]⟩
theorem inL_take {e : Ev} {l : List Ev} {i : Nat} (hi : i < l.length) (h : Uni l) : InL e (takeL l i) ↔ InL e l ∧ e ≠ evAt l i := by
  rw [← inL_cut hi h]
  unfold takeL
  by_cases h1 : i < l.length - 1
  · rw [if_pos h1, inL_kept, kept_upL (by rw [downL_length, cutL_length]; exact h1), kept_downL (by rw [cutL_length]; omega) h1, ← inL_kept]
  · rw [if_neg h1]
theorem take_first {l : List Ev} (h : HeapW l) (hu : Uni l) (h0 : 0 < l.length) (j : Nat) (hj : j < (takeL l 0).length) : (evAt l 0).cmp (evAt (takeL l 0) j) < 0 := by
  obtain ⟨⟨i, hi, he⟩, hne⟩ := (inL_take h0 hu).1 ⟨j, hj, rfl⟩
  have h1 := heap_first h i hi
  rw [he] at h1
  refine h1.lt fun hg => hne ?_
  rw [← he] at hg ⊢
  rw [hu 0 i h0 hi hg]
/- In order. -/
def Ord1 (l : List Ev) : Prop := ∀ i j, i < j → j < l.length → (evAt l i).cmp (evAt l j) < 0
theorem evAt_cons (e : Ev) (l : List Ev) (i : Nat) : evAt (e :: l) (i + 1) = evAt l i := by simp [evAt]
theorem evAt_head (e : Ev) (l : List Ev) : evAt (e :: l) 0 = e := by simp [evAt]
theorem inL_cons {e x : Ev} {l : List Ev} : InL e (x :: l) ↔ e = x ∨ InL e l := by
  constructor
  · rintro ⟨j, hj, he⟩
    cases j with
    | zero => rw [evAt_head] at he; exact .inl he.symm
    | succ j => rw [evAt_cons] at he; exact .inr ⟨j, by simpa using hj, he⟩
  · rintro (rfl | ⟨j, hj, he⟩)
    · exact ⟨0, by simp, evAt_head _ _⟩
    · exact ⟨j + 1, by simpa using hj, by rw [evAt_cons]; exact he⟩
theorem ord_cons {x : Ev} {l : List Ev} : Ord1 (x :: l) ↔ (∀ j, j < l.length → x.cmp (evAt l j) < 0) ∧ Ord1 l := by
  constructor
  · intro h
    refine ⟨fun j hj => ?_, fun i j hij hj => ?_⟩
    · have := h 0 (j + 1) (by omega) (by simpa using hj)
      rwa [evAt_head, evAt_cons] at this
    · have := h (i + 1) (j + 1) (by omega) (by simpa using hj)
      rwa [evAt_cons, evAt_cons] at this
  · rintro ⟨h1, h2⟩ i j hij hj
    cases j with
    | zero => omega
    | succ j =>
      rw [evAt_cons]
      cases i with
      | zero => rw [evAt_head]; exact h1 j (by simpa using hj)
      | succ i => rw [evAt_cons]; exact h2 i j (by omega) (by simpa using hj)
theorem ord_same : ∀ (s t : List Ev), Ord1 s → Ord1 t → (∀ e, InL e s ↔ InL e t) → s = t
  | [], [], _, _, _ => rfl
  | [], b :: t, _, _, h => by
    obtain ⟨j, hj, _⟩ := (h b).2 ⟨0, by simp, evAt_head _ _⟩
    simp at hj
  | a :: s, [], _, _, h => by
    obtain ⟨j, hj, _⟩ := (h a).1 ⟨0, by simp, evAt_head _ _⟩
    simp at hj
  | a :: s, b :: t, hs, ht, h => by
    obtain ⟨hs1, hs2⟩ := ord_cons.1 hs
    obtain ⟨ht1, ht2⟩ := ord_cons.1 ht
    have hab : a = b := by
      rcases inL_cons.1 ((h a).1 (inL_cons.2 (.inl rfl))) with h1 | ⟨i, hi, h1⟩
      · exact h1
      · rcases inL_cons.1 ((h b).2 (inL_cons.2 (.inl rfl))) with h2 | ⟨j, hj, h2⟩
        · exact h2.symm
        · have a1 := ht1 i hi
          have a2 := hs1 j hj
          rw [h1] at a1
          rw [h2] at a2
          exact absurd a1 (cmp_asymm a2)
    subst hab
    have hir : ∀ x : Ev, ¬ x.cmp x < 0 := fun x hx => cmp_asymm hx hx
    rw [ord_same s t hs2 ht2 fun e => ?_]
    constructor
    · intro he
      rcases inL_cons.1 ((h e).1 (inL_cons.2 (.inr he))) with h1 | h1
      · obtain ⟨i, hi, h2⟩ := he
        have := hs1 i hi
        rw [h2, h1] at this
        exact absurd this (hir _)
      · exact h1
    · intro he
      rcases inL_cons.1 ((h e).2 (inL_cons.2 (.inr he))) with h1 | h1
      · obtain ⟨i, hi, h2⟩ := he
        have := ht1 i hi
        rw [h2, h1] at this
        exact absurd this (hir _)
      · exact h1
end Go.Proofs.YtmpoffepoafblaaGreat

/- What turns, and what stays as it was. -/
namespace Go.Proofs.YtmpoffepoafblaaGreat
open Go.RowKit
/- All blocks but those of S stay as they were. -/
structure Turns (S : Nat → Prop) (w w' : World) : Prop where
  os : w'.os = w.os
  tape : w'.tape = w.tape
  output : w'.output = w.output
  size : w.heap.size ≤ w'.heap.size
  block : ∀ k, k < w.heap.size → ¬ S k → w'.heap[k]? = w.heap[k]?
theorem Turns.refl (S : Nat → Prop) (w : World) : Turns S w w := ⟨rfl, rfl, rfl, Nat.le_refl _, fun _ _ _ => rfl⟩
theorem Turns.trans {S : Nat → Prop} {a b c : World} (h : Turns S a b) (k : Turns S b c) : Turns S a c :=
  ⟨k.os.trans h.os, k.tape.trans h.tape, k.output.trans h.output, Nat.le_trans h.size k.size, fun i hi hS => (k.block i (Nat.lt_of_lt_of_le hi h.size) hS).trans (h.block i hi hS)⟩
theorem Turns.drew {S : Nat → Prop} {a w : World} (h : Turns S a w) : Turns S a w.drew := ⟨h.os, h.tape, h.output, h.size, h.block⟩
theorem Turns.of_below {S : Nat → Prop} {w w' : World} (h : Below w.heap.size w w') : Turns S w w' := ⟨h.os, h.tape, h.output, h.size, fun k hk _ => h.block k hk⟩
theorem Turns.to_below {S : Nat → Prop} {w w' : World} {B : Nat} (h : Turns S w w') (hS : ∀ k, S k → B ≤ k) (hB : B ≤ w.heap.size) : Below B w w' :=
  ⟨h.os, h.tape, h.output, h.size, fun k hk => h.block k (by omega) (fun e => by have := hS k e; omega)⟩
theorem Turns.mono {S S' : Nat → Prop} {w w' : World} (h : Turns S w w') (hS : ∀ k, S k → S' k) : Turns S' w w' := ⟨h.os, h.tape, h.output, h.size, fun k hk hn => h.block k hk (fun e => hn (hS k e))⟩
theorem Turns.alloc {S : Nat → Prop} {a w : World} (h : Turns S a w) (o : Obj) : Turns S a (w.alloc o) := h.trans (Turns.of_below ((Below.refl _ w).alloc (Nat.le_refl _) o))
theorem Turns.setCell {S : Nat → Prop} {a w : World} (h : Turns S a w) {p : Addr} (hp : S p.block) (u : Value) : Turns S a (w.setCell p u) :=
  h.trans ⟨rfl, rfl, rfl, by simp [World.setCell], fun k _ hk => Below.heap_setCell _ _ _ _ (fun e => hk (e ▸ hp))⟩
theorem Turns.cell {S : Nat → Prop} {w w' : World} (h : Turns S w w') {b o : Nat} (hb : b < w.heap.size) (hS : ¬ S b) : w'.cell? ⟨b, o, none⟩ = w.cell? ⟨b, o, none⟩ := World.cell?_of_block (w := w) (h.block b hb hS)
theorem Turns.frozen {S : Nat → Prop} {w w' : World} (h : Turns S w w') {b o : Nat} (hb : b < w.heap.size) (hS : ¬ S b) : w'.frozen? ⟨b, o, none⟩ = w.frozen? ⟨b, o, none⟩ := World.frozen?_of_block (w := w) (h.block b hb hS)
end Go.Proofs.YtmpoffepoafblaaGreat

/- Rows of numbers: eqIntS where both sides are the same, markIntS, heldIntS. -/
namespace Go.Proofs.YtmpoffepoafblaaGreat
open Go.RowKit
def intAt (l : List Int) (i : Nat) : Int := l.getD i 0
def intCells (l : List Int) : List Value := l.map (Value.int .i64)
/- The bytes of l lie in block b from off on. -/
def IntsAt (w : World) (b off : Nat) (l : List Int) : Prop := b < w.heap.size ∧ ∀ i, i < l.length → w.cell? ⟨b, off + i, none⟩ = some (.int .i64 (intAt l i))
def IsI (w : World) (x : Value) (l : List Int) : Prop := ∃ a cap, x = .slice a l.length cap ∧ l.length ≤ cap ∧ cap ≤ maxLen ∧ (l = [] ∨ ∃ b off, a = some ⟨b, off, none⟩ ∧ IntsAt w b off l)
theorem IntsAt.below {w w' : World} {B b off : Nat} {l : List Int} (h : IntsAt w b off l) (hb : Below B w w') (hB : b < B) : IntsAt w' b off l :=
  ⟨Nat.lt_of_lt_of_le h.1 hb.size, fun i hi => (hb.cell hB).trans (h.2 i hi)⟩
theorem IsI.below {w w' : World} {x : Value} {l : List Int} (h : IsI w x l) (hb : Below w.heap.size w w') : IsI w' x l := by
  obtain ⟨a, cap, rfl, h1, h2, h⟩ := h
  exact ⟨a, cap, rfl, h1, h2, h.imp id (fun ⟨b, off, e, h⟩ => ⟨b, off, e, h.below hb h.1⟩)⟩
/- The block g holds n cells that may be written; the first k of them hold the marks. -/
def MarkTo (w : World) (g n k : Nat) : Prop := g < w.heap.size ∧ (∀ j, j < n → (w.cell? ⟨g, j, none⟩).isSome = true ∧ w.frozen? ⟨g, j, none⟩ = false) ∧ ∀ i, i < k → w.cell? ⟨g, i, none⟩ = some (.int .i64 ((i : Int) + 1))
theorem MarkTo.below {w w' : World} {B g n k : Nat} (h : MarkTo w g n k) (hb : Below B w w') (hB : g < B) : MarkTo w' g n k :=
  ⟨Nat.lt_of_lt_of_le h.1 hb.size, fun j hj => by rw [hb.cell (p := ⟨g, j, none⟩) hB, hb.frozen (p := ⟨g, j, none⟩) hB]; exact h.2.1 j hj, fun i hi => (hb.cell hB).trans (h.2.2 i hi)⟩
theorem MarkTo.put {w : World} {g n k : Nat} (h : MarkTo w g n k) (hk : k < n) : MarkTo (w.setCell ⟨g, k, none⟩ (.int .i64 ((k : Int) + 1))) g n (k + 1) := by
  have e1 : w.setCell ⟨g, k, none⟩ (.int .i64 ((k : Int) + 1)) = w.setCells g k [.int .i64 ((k : Int) + 1)] := rfl
  have hsame : ∀ j, j ≠ k → (w.setCell ⟨g, k, none⟩ (.int .i64 ((k : Int) + 1))).cell? ⟨g, j, none⟩ = w.cell? ⟨g, j, none⟩ := fun j hj => by
    rw [e1]
    exact World.cell?_setCells_out g _ k w ⟨g, j, none⟩ (fun _ _ => by simp; omega)
  have hat : (w.setCell ⟨g, k, none⟩ (.int .i64 ((k : Int) + 1))).cell? ⟨g, k, none⟩ = some (.int .i64 ((k : Int) + 1)) := by
    rw [e1]
    have h0 := World.cell?_setCells_in g [.int .i64 ((k : Int) + 1)] k w (fun j hj => by
      obtain rfl : j = 0 := by simpa using hj
      exact (h.2.1 k hk).1) 0 (by simp)
    simpa using h0
  refine ⟨by simpa using h.1, fun j hj => ?_, fun i hi => ?_⟩
  · refine ⟨?_, ?_⟩
    · by_cases e : j = k
      · subst e; rw [hat]; rfl
      · rw [hsame j e]; exact (h.2.1 j hj).1
    · rw [e1, World.frozen?_setCells]; exact (h.2.1 j hj).2
  · by_cases e : i = k
    · subst e; exact hat
    · rw [hsame i e]; exact h.2.2 i (by omega)
theorem grown_refl (w : World) (row : Option Nat) : w.grownBy w row := ⟨rfl, rfl, rfl, Nat.le_refl _, fun _ _ _ => rfl⟩
theorem grown_trans {w w' w'' : World} {row : Option Nat} (h : w.grownBy w' row) (h' : w'.grownBy w'' row) : w.grownBy w'' row :=
  ⟨h'.os.trans h.os, h'.tape.trans h.tape, h'.output.trans h.output, Nat.le_trans h.size h'.size, fun k hk hr => (h'.block k (Nat.lt_of_lt_of_le hk h.size) hr).trans (h.block k hk hr)⟩
theorem setCell_grown (w : World) (g o : Nat) (v : Value) : w.grownBy (w.setCell ⟨g, o, none⟩ v) (some g) := by
  refine ⟨?_, ?_, ?_, by simp, fun k _ hk => Below.heap_setCell _ _ _ _ (fun e => hk (by rw [e]))⟩
  all_goals (unfold World.setCell; rfl)

set_option maxHeartbeats 2000000 in
theorem eqI_same (x y : Value) (l : List Int) (w : World) (hl : l.length ≤ 4611686018427387904) (hx : IsI w x l) (hy : IsI w y l) :
    Calls Tryz.prog 18 #[x, y] w fun e w' => e = .returned (.bool true) ∧ Below w.heap.size w w' := by
  obtain ⟨a, cap, rfl, h1, h2, h⟩ := hx
  obtain ⟨a', cap', rfl, h1', h2', h'⟩ := hy
  clear h1 h2 h1' h2'
  by_cases hz : l = []
  · subst hz
    clear h h'
    go_enter Tryz.func18, Tryz.ntmps18
    go_wp2
    go_loop [5] (fun i => i = .int .i64 0) (fun _ => 0)
    case atStart => rfl
    case round =>
      subst hrel
      go_wp2
      go_ret
      exact ⟨rfl, Below.refl _ _⟩
  · obtain ⟨b, off, rfl, hb, hc⟩ := h.resolve_left hz
    obtain ⟨b', off', rfl, hb', hc'⟩ := h'.resolve_left hz
    clear h h' hz
    go_enter Tryz.func18, Tryz.ntmps18
    go_wp2
    go_loopw [5] (fun i wr => ∃ k : Nat, k ≤ l.length ∧ i = .int .i64 k ∧ Below w.heap.size w wr) (fun i _ => l.length - (intOf i).toNat)
    case atStart => exact ⟨0, Nat.zero_le _, rfl, Below.refl _ _⟩
    case round =>
      obtain ⟨k, hk, rfl, hB⟩ := hrel
      have HB : Hid (Below w.heap.size w wr) := hB
      by_cases hlt : k < l.length
      · have f0 := (hB.cell (p := ⟨b, off + k, none⟩) hb).trans (hc k hlt)
        have e0 := (hB.cell (p := ⟨b', off' + k, none⟩) hb').trans (hc' k hlt)
        generalize intAt l k = z at f0 e0
        clear hB hc hc'
        go_wp2_with fail
        go_region_held3 (fun W => W.cell? ⟨b, off + k, none⟩ = some (.int .i64 z) ∧ W.cell? ⟨b', off' + k, none⟩ = some (.int .i64 z)) ((repeat' apply And.intro) <;> go_keep) (fail)
        go_wp2
        go_roundw
        case rel => exact ⟨k + 1, by omega, by go_num, HB.out.drew⟩
        case measure => simp [intOf]; omega
      · clear hB hc hc'
        go_wp2
        go_ret
        exact ⟨rfl, HB.out⟩

set_option maxHeartbeats 2000000 in
theorem markI_any (g n cap : Nat) (w : World) (hn : n ≤ 4611686018427387904) (hR : MarkTo w g n 0) :
    Calls Tryz.prog 20 #[.slice (some ⟨g, 0, none⟩) n cap, .int .i64 1] w fun e w' => e = .returned (.int .i64 ((n : Int) + 1)) ∧ MarkTo w' g n n ∧ w.grownBy w' (some g) := by
  have HR0 : Hid (MarkTo w g n 0) := hR
  clear hR
  go_enter Tryz.func20, Tryz.ntmps20
  go_wp2
  go_loopw [5, 1] (fun i z wr => ∃ k : Nat, k ≤ n ∧ i = .int .i64 k ∧ z = .int .i64 ((k : Int) + 1) ∧ MarkTo wr g n k ∧ w.grownBy wr (some g)) (fun i _ _ => n - (intOf i).toNat)
  case atStart => exact ⟨0, Nat.zero_le _, rfl, rfl, HR0.out, grown_refl _ _⟩
  case round =>
    obtain ⟨k, hk, rfl, rfl, hR, hg⟩ := hrel
    have HR : Hid (MarkTo wr g n k) := hR
    have HG : Hid (w.grownBy wr (some g)) := hg
    clear hR hg
    by_cases hlt : k < n
    · obtain ⟨v, hv⟩ := Option.isSome_iff_exists.1 (HR.out.2.1 k hlt).1
      have hf := (HR.out.2.1 k hlt).2
      go_wp2
      go_roundw
      case rel => exact ⟨k + 1, by omega, by go_num, by go_num, HR.out.put hlt, grown_trans HG.out (setCell_grown _ _ _ _)⟩
      case measure => simp [intOf]; omega
    · go_wp2
      go_ret
      obtain rfl : k = n := by omega
      exact ⟨rfl, HR.out, HG.out⟩

set_option maxHeartbeats 2000000 in
theorem heldI_any (g n cap : Nat) (w : World) (hn : n ≤ 4611686018427387904) (hR : MarkTo w g n n) :
    Calls Tryz.prog 111 #[.slice (some ⟨g, 0, none⟩) n cap, .int .i64 1] w fun e w' => e = .returned (.int .i64 ((n : Int) + 1)) ∧ w' = w := by
  have HR : Hid (MarkTo w g n n) := hR
  clear hR
  go_enter Tryz.func111, Tryz.ntmps111
  go_wp2
  go_loop [5, 1] (fun i z => ∃ k : Nat, k ≤ n ∧ i = .int .i64 k ∧ z = .int .i64 ((k : Int) + 1)) (fun i _ => n - (intOf i).toNat)
  case atStart => exact ⟨0, Nat.zero_le _, rfl, rfl⟩
  case round =>
    obtain ⟨k, hk, rfl, rfl⟩ := hrel
    by_cases hlt : k < n
    · have hev := HR.out.2.2 k hlt
      go_wp2
      go_round
      case rel => exact ⟨k + 1, by omega, by go_num, by go_num⟩
      case measure => simp [intOf]; omega
    · go_wp2
      go_ret
      obtain rfl : k = n := by omega
      exact ⟨rfl, rfl⟩

set_option maxHeartbeats 1000000 in
theorem markI_nil (a : Option Addr) (cap : Nat) (w : World) : Calls Tryz.prog 20 #[.slice a 0 cap, .int .i64 1] w fun e w' => e = .returned (.int .i64 1) ∧ w' = w := by
  go_enter Tryz.func20, Tryz.ntmps20
  go_wp2
  go_loop [5, 1] (fun i z => i = .int .i64 0 ∧ z = .int .i64 1) (fun _ _ => 0)
  case atStart => exact ⟨rfl, rfl⟩
  case round =>
    obtain ⟨rfl, rfl⟩ := hrel
    go_wp2
    go_ret
    exact ⟨rfl, rfl⟩
set_option maxHeartbeats 1000000 in
theorem heldI_nil (a : Option Addr) (cap : Nat) (w : World) : Calls Tryz.prog 111 #[.slice a 0 cap, .int .i64 1] w fun e w' => e = .returned (.int .i64 1) ∧ w' = w := by
  go_enter Tryz.func111, Tryz.ntmps111
  go_wp2
  go_loop [5, 1] (fun i z => i = .int .i64 0 ∧ z = .int .i64 1) (fun _ _ => 0)
  case atStart => exact ⟨rfl, rfl⟩
  case round =>
    obtain ⟨rfl, rfl⟩ := hrel
    go_wp2
    go_ret
    exact ⟨rfl, rfl⟩

/- A slice over the bytes l, in a block of its own from B on, all of whose cells may be written. -/
def OwnI (B : Nat) (w : World) (x : Value) (l : List Int) : Prop := ∃ a cap, x = .slice a l.length cap ∧ l.length ≤ cap ∧ cap ≤ maxLen ∧ (l = [] ∨ ∃ g, a = some ⟨g, 0, none⟩ ∧ B ≤ g ∧ (∀ j, j < l.length → w.frozen? ⟨g, j, none⟩ = false) ∧ IntsAt w g 0 l)
theorem OwnI.nil (B : Nat) (w : World) : OwnI B w (.slice none 0 0) [] := ⟨none, 0, rfl, Nat.le_refl _, Nat.zero_le _, .inl rfl⟩
theorem OwnI.isI {B : Nat} {w : World} {x : Value} {l : List Int} (h : OwnI B w x l) : IsI w x l := by
  obtain ⟨a, cap, rfl, h1, h2, h⟩ := h
  exact ⟨a, cap, rfl, h1, h2, h.imp id (fun ⟨g, e, _, _, hr⟩ => ⟨g, 0, e, hr⟩)⟩
theorem OwnI.below {B : Nat} {w w' : World} {x : Value} {l : List Int} (h : OwnI B w x l) (hb : Below w.heap.size w w') : OwnI B w' x l := by
  obtain ⟨a, cap, rfl, h1, h2, h⟩ := h
  exact ⟨a, cap, rfl, h1, h2, h.imp id (fun ⟨g, e, hg, hf, hr⟩ => ⟨g, e, hg, fun j hj => (hb.frozen (p := ⟨g, j, none⟩) hr.1).trans (hf j hj), hr.below hb hr.1⟩)⟩
theorem OwnI.mono {B B' : Nat} {w : World} {x : Value} {l : List Int} (h : OwnI B w x l) (hb : B' ≤ B) : OwnI B' w x l := by
  obtain ⟨a, cap, rfl, h1, h2, h⟩ := h
  exact ⟨a, cap, rfl, h1, h2, h.imp id (fun ⟨g, e, hg, hr⟩ => ⟨g, e, Nat.le_trans hb hg, hr⟩)⟩
theorem OwnI.of_row {B : Nat} {w : World} {x : Value} {l : List Int} (h : w.ownsRow B 3 1 x l.length (intCells l)) : OwnI B w x l := by
  obtain ⟨hl, ⟨rfl, h0⟩ | ⟨g, cap, cur, rfl, hg, hc, h1, h2, h3, h4⟩⟩ := h
  · exact ⟨none, 0, by rw [h0], by omega, by unfold maxLen; omega, .inl (List.eq_nil_of_length_eq_zero h0)⟩
  · refine ⟨_, cap, rfl, h1, h2, .inr ⟨g, rfl, hg, fun j hj => ?_, (Array.getElem?_eq_some_iff.1 hc).1, fun i hi => ?_⟩⟩
    · have hj2 : j < cur.size := by omega
      simp [World.frozen?, hc]
    · have e1 : w.cell? ⟨g, i, none⟩ = (intCells l)[i]? := by
        rw [← h4, List.getElem?_take_of_lt (by omega)]
        simp [World.cell?, hc]
      rw [Nat.zero_add, e1]
      simp [intCells, intAt, hi]
/- At most one row, at or above B, has turned. -/
def Turned (B : Nat) (w w' : World) : Prop := w' = w ∨ ∃ g, B ≤ g ∧ w.grownBy w' (some g)
theorem Turned.below {B : Nat} {w w' : World} (h : Turned B w w') (hB : B ≤ w.heap.size) : Below B w w' := by
  rcases h with rfl | ⟨g, hg, h⟩
  · exact Below.refl _ _
  · exact (Below.refl B w).grown h hB (fun k e => by cases e; exact hg)
def HeldI (w : World) (x : Value) (m : Int) : Prop := ∃ a n cap, x = .slice a n cap ∧ m = ((n : Nat) : Int) + 1 ∧ n ≤ 4611686018427387904 ∧ (n = 0 ∨ ∃ g, a = some ⟨g, 0, none⟩ ∧ MarkTo w g n n)
theorem HeldI.below {w w' : World} {x : Value} {m : Int} (h : HeldI w x m) (hb : Below w.heap.size w w') : HeldI w' x m := by
  obtain ⟨a, n, cap, h1, h2, h3, h4⟩ := h
  exact ⟨a, n, cap, h1, h2, h3, h4.imp id (fun ⟨g, e, hr⟩ => ⟨g, e, hr.below hb hr.1⟩)⟩
theorem heldI_in {w : World} {x : Value} {m : Int} (h : HeldI w x m) : Calls Tryz.prog 111 #[x, .int .i64 1] w fun e w' => e = .returned (.int .i64 m) ∧ w' = w := by
  obtain ⟨a, n, cap, rfl, rfl, hn, rfl | ⟨g, rfl, hr⟩⟩ := h
  · exact heldI_nil a cap w
  · exact heldI_any g n cap w hn hr
theorem markI_own {B : Nat} {w : World} {x : Value} {l : List Int} (h : OwnI B w x l) (hl : l.length ≤ 4611686018427387904) :
    Calls Tryz.prog 20 #[x, .int .i64 1] w fun e w' => ∃ m : Int, 1 ≤ m ∧ e = .returned (.int .i64 m) ∧ HeldI w' x m ∧ Turned B w w' := by
  obtain ⟨a, cap, rfl, h1, h2, h⟩ := h
  by_cases h0 : l = []
  · subst h0
    refine (markI_nil a cap w).mono ?_
    rintro e w' ⟨rfl, rfl⟩
    exact ⟨1, by omega, rfl, ⟨a, 0, cap, rfl, by simp, by omega, .inl rfl⟩, .inl rfl⟩
  · obtain ⟨g, rfl, hg, hf, hr⟩ := h.resolve_left h0
    refine (markI_any g l.length cap w hl ⟨hr.1, fun j hj => ⟨by have := hr.2 j hj; rw [Nat.zero_add] at this; rw [this]; rfl, hf j hj⟩, fun i hi => by omega⟩).mono ?_
    rintro e w' ⟨rfl, hr', hgr⟩
    exact ⟨_, by omega, rfl, ⟨_, l.length, cap, rfl, rfl, hl, .inr ⟨g, rfl, hr'⟩⟩, .inr ⟨g, hg, hgr⟩⟩
end Go.Proofs.YtmpoffepoafblaaGreat

/- Ops and models as plain values. -/
namespace Go.Proofs.YtmpoffepoafblaaGreat
open Go.RowKit
structure O where
  c : Int
  a : Int
  b : Int
  k : Int
def oAt (l : List O) (i : Nat) : O := l.getD i ⟨0, 0, 0, 0⟩
def hAt (l : List (List O)) (i : Nat) : List O := l.getD i []
structure Md where
  n : Int
  s : Int
  i : List Int
  h : List (List O)
  e : List Ev
  z : Int
/- An op that may be, of a model with n parts and len handlers. -/
def okO (n len c a b k : Int) : Bool :=
  decide ((c = 0 ∧ 0 ≤ a ∧ a ≤ 1 ∧ 0 ≤ b ∧ b ≤ 999 ∧ k = 0) ∨ ((c = 1 ∨ c = 5) ∧ 0 ≤ a ∧ a ≤ 1 ∧ b = 0 ∧ k = 0) ∨ (c = 6 ∧ 0 ≤ a ∧ a ≤ 1 ∧ 1 ≤ b ∧ b ≤ 999 ∧ k = 0) ∨
    (c = 2 ∧ 0 ≤ a ∧ a < n ∧ 1 ≤ b ∧ b ≤ 50 ∧ 0 ≤ k ∧ k < len) ∨ (c = 3 ∧ 0 ≤ a ∧ a ≤ 1 ∧ 0 ≤ b ∧ b ≤ 999 ∧ 1 ≤ k ∧ k ≤ 8) ∨ (c = 4 ∧ 0 ≤ a ∧ a ≤ 3 ∧ 0 ≤ b ∧ b ≤ 1 ∧ k = 0))
def O.ok (n len : Int) (o : O) : Bool := okO n len o.c o.a o.b o.k
def O.cs (e : O) : List Value := [.int .i64 e.c, .int .i64 e.a, .int .i64 e.b, .int .i64 e.k]
abbrev O.val (e : O) : Value := .agg #[.int .i64 e.c, .int .i64 e.a, .int .i64 e.b, .int .i64 e.k]
def cellsO : List O → List Value
  | [] => []
  | e :: l => e.cs ++ cellsO l
theorem cellsO_length : ∀ l : List O, (cellsO l).length = l.length * 4
  | [] => rfl
  | e :: l => by simp [cellsO, cellsO_length l, O.cs]; omega
theorem cellsO_append : ∀ l l' : List O, cellsO (l ++ l') = cellsO l ++ cellsO l'
  | [], _ => rfl
  | e :: l, l' => by simp [cellsO, cellsO_append l l']
theorem oAt_cons_succ (e : O) (l : List O) (i : Nat) : oAt (e :: l) (i + 1) = oAt l i := by simp [oAt]
theorem cellsO_get : ∀ (l : List O) (i r : Nat), i < l.length → r < 4 → (cellsO l)[i * 4 + r]? = (oAt l i).cs[r]?
  | [], _, _, h, _ => by simp at h
  | e :: l, 0, r, _, hr => by
    have : r < e.cs.length := by simpa [O.cs] using hr
    simp only [cellsO, Nat.zero_mul, Nat.zero_add]
    rw [List.getElem?_append_left this]
    simp [oAt]
  | e :: l, i + 1, r, h, hr => by
    have h1 := cellsO_get l i r (by simpa using h) hr
    have : e.cs.length ≤ (i + 1) * 4 + r := by simp [O.cs]; omega
    simp only [cellsO]
    rw [List.getElem?_append_right this, oAt_cons_succ, ← h1]
    congr 1
    simp [O.cs]; omega
theorem cellsO_one (l : List O) : ∀ u ∈ cellsO l, u.oneCell' = true := by
  induction l with
  | nil => intro u h; cases h
  | cons e l ih =>
    intro u h
    rcases List.mem_append.1 h with h | h
    · simp [O.cs] at h
      rcases h with rfl | rfl | rfl | rfl <;> rfl
    · exact ih u h
end Go.Proofs.YtmpoffepoafblaaGreat

/- Contracts of toEvent, within, l1num, Compare: plain values in, plain values out. -/
namespace Go.Proofs.YtmpoffepoafblaaGreat
open Go.RowKit


theorem ret_bool {a b : Bool} (h : a = b) : Ending.returned (.bool a) = .returned (.bool b) := by rw [h]
theorem ret_int {k : IntKind} {a b : Int} (h : a = b) : Ending.returned (.int k a) = .returned (.int k b) := by rw [h]
theorem ret_dec {p : Prop} [Decidable p] {b : Bool} (h : p ↔ b = true) : Ending.returned (.bool (decide p)) = .returned (.bool b) := by
  rw [show decide p = b from by cases b <;> simp_all]

set_option maxHeartbeats 400000 in
theorem toEvent_any (t s q d k v g : Int) (w : World) :
    Calls Tryz.prog 55 #[.agg #[.int .i64 t, .int .i64 s, .int .i64 q, .int .i64 d, .int .i64 k, .int .i64 v, .int .i64 g]] w fun e w' =>
      e = .returned (.agg #[.int .i64 t, .int .i64 s, .int .i64 q, .int .i64 d, .int .i64 k, .int .i64 v, .int .i64 g]) ∧ Below w.heap.size w w' := by
  go_enter Tryz.func55, Tryz.ntmps55
  go_wp2
  exact bodyPost_ret (v := .agg #[.int .i64 t, .int .i64 s, .int .i64 q, .int .i64 d, .int .i64 k, .int .i64 v, .int .i64 g]) (by simp [results, Tryz.results55, go_sem]) rfl
    ⟨rfl, (((Below.refl _ _).alloc (Nat.le_refl _) _).alloc (by simp) _).alloc (by simp; omega) _⟩

set_option maxHeartbeats 400000 in
theorem within_any (x lo hi : Int) (w : World) :
    Calls Tryz.prog 68 #[.int .i64 x, .int .i64 lo, .int .i64 hi] w fun e w' =>
      e = .returned (.bool (decide (lo ≤ x) && decide (x ≤ hi))) ∧ w' = w := by
  go_enter Tryz.func68, Tryz.ntmps68
  go_wp2
  · go_ret
    exact ⟨ret_dec (by simp_all), rfl⟩
  · go_ret
    exact ⟨ret_bool (by simp; omega), rfl⟩

set_option maxHeartbeats 400000 in
theorem num_any (a b : Int) (w : World) :
    Calls Tryz.prog 229 #[.int .i64 a, .int .i64 b] w fun e w' => e = .returned (.int .i64 (num a b)) ∧ w' = w := by
  go_enter Tryz.func229, Tryz.ntmps229
  go_wp2
  all_goals (go_ret; exact ⟨ret_int (by unfold num; split <;> (try split) <;> omega), rfl⟩)

set_option maxHeartbeats 400000 in
theorem compare_any (a b : Int) (w : World) :
    Calls Tryz.prog 163 #[.int .i64 a, .int .i64 b] w fun e w' => e = .returned (.int .i64 (num a b)) ∧ w' = w := by
  go_enter Tryz.func163, Tryz.ntmps163
  go_wp2
  all_goals (go_ret; exact ⟨ret_int (by unfold num; split <;> (try split) <;> omega), rfl⟩)

end Go.Proofs.YtmpoffepoafblaaGreat

/- Small facts on worlds, and the order of two events. -/
namespace Go.Proofs.YtmpoffepoafblaaGreat
open Go.RowKit
def ecmp (t s q d k v g t' s' q' d' k' v' g' : Int) : Int := if okB t s q d k v g = true ∧ okB t' s' q' d' k' v' g' = true then cmpI t s q g t' s' q' g' else 0
theorem bcell {W w1 : World} (hb : Below W.heap.size W w1) : (∀ b o, b < W.heap.size → w1.cell? ⟨b, o, none⟩ = W.cell? ⟨b, o, none⟩) ∧ (∀ b o, b < W.heap.size → w1.frozen? ⟨b, o, none⟩ = W.frozen? ⟨b, o, none⟩) :=
  ⟨fun b o h => hb.cell (p := ⟨b, o, none⟩) h, fun b o h => hb.frozen (p := ⟨b, o, none⟩) h⟩
/- An event that lies at the head of a block, field by field. -/
structure EvAt (w : World) (b o : Nat) (t s q d k v g : Int) : Prop where
  f0 : w.cell? ⟨b, o, none⟩ = some (.int .i64 t)
  f1 : w.cell? ⟨b, o + 1, none⟩ = some (.int .i64 s)
  f2 : w.cell? ⟨b, o + 2, none⟩ = some (.int .i64 q)
  f3 : w.cell? ⟨b, o + 3, none⟩ = some (.int .i64 d)
  f4 : w.cell? ⟨b, o + 4, none⟩ = some (.int .i64 k)
  f5 : w.cell? ⟨b, o + 5, none⟩ = some (.int .i64 v)
  f6 : w.cell? ⟨b, o + 6, none⟩ = some (.int .i64 g)
theorem EvAt.below {w w' : World} {B b o : Nat} {t s q d k v g : Int} (h : EvAt w b o t s q d k v g) (hb : Below B w w') (hlt : b < B) : EvAt w' b o t s q d k v g :=
  ⟨(hb.cell hlt).trans h.f0, (hb.cell hlt).trans h.f1, (hb.cell hlt).trans h.f2, (hb.cell hlt).trans h.f3, (hb.cell hlt).trans h.f4, (hb.cell hlt).trans h.f5, (hb.cell hlt).trans h.f6⟩
theorem EvAt.new (w : World) (T : TypeId) (t s q d k v g : Int) : EvAt (w.alloc (.cells #[.int .i64 t, .int .i64 s, .int .i64 q, .int .i64 d, .int .i64 k, .int .i64 v, .int .i64 g] T)) w.heap.size 0 t s q d k v g := by
  constructor <;> simp
theorem EvAt.alloc {w : World} {b o : Nat} {t s q d k v g : Int} (h : EvAt w b o t s q d k v g) (hlt : b < w.heap.size) (x : Obj) : EvAt (w.alloc x) b o t s q d k v g :=
  h.below ((Below.refl _ w).alloc (Nat.le_refl _) x) hlt
theorem EvAt.lits {w : World} {b : Nat} {t s q d k v g : Int} (h : EvAt w b 0 t s q d k v g) : w.cell? ⟨b, 0, none⟩ = some (.int .i64 t) ∧ w.cell? ⟨b, 1, none⟩ = some (.int .i64 s) ∧ w.cell? ⟨b, 2, none⟩ = some (.int .i64 q) ∧ w.cell? ⟨b, 3, none⟩ = some (.int .i64 d) ∧ w.cell? ⟨b, 4, none⟩ = some (.int .i64 k) ∧ w.cell? ⟨b, 5, none⟩ = some (.int .i64 v) ∧ w.cell? ⟨b, 6, none⟩ = some (.int .i64 g) :=
  ⟨h.f0, h.f1, h.f2, h.f3, h.f4, h.f5, h.f6⟩
end Go.Proofs.YtmpoffepoafblaaGreat

