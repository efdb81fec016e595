/- Pure, NTurn, NInts, MPure, Base, Kit, Evs, Rows2, MRow, VTo, MTo, MSz -/
import Derived.Test.YtbljfphdghfkfaaGreatDoorRows
import Derived.WalkKit
import Derived.Below
import Derived.OwnWalk
import Derived.Deep.RegionHeld3
import Derived.WalkSpells
import Derived.WalkLawsBesides
import Derived.Outline
/- Events and heaps of them as plain lists: lifting, sinking, taking out; what the library does and what the document says come to the same. -/
namespace Go.Proofs.YtbljfphdghfkfaaGreatDoor
def okB (t s q d k v g : Int) : Bool := decide (0 ≤ t ∧ t ≤ 1000 ∧ -1 ≤ s ∧ s ≤ 3 ∧ 0 ≤ q ∧ q ≤ 100000 ∧ 0 ≤ d ∧ d ≤ 3 ∧ 0 ≤ k ∧ k ≤ 3 ∧ 0 ≤ v ∧ v ≤ 999 ∧ 0 ≤ g ∧ g ≤ 100000)
def num (a b : Int) : Int := if a < b then -1 else if b < a then 1 else 0
def cmpI (t s q g t' s' q' g' : Int) : Int := if t ≠ t' then num t t' else if s ≠ s' then num s s' else if q ≠ q' then num q q' else num g g'
structure Ev where
  t : Int
  s : Int
  q : Int
  d : Int
  k : Int
  v : Int
  g : Int
def evAt (l : List Ev) (i : Nat) : Ev := l.getD i ⟨0, 0, 0, 0, 0, 0, 0⟩
def Ev.ok (e : Ev) : Bool := okB e.t e.s e.q e.d e.k e.v e.g
def Ev.cmp (a b : Ev) : Int := cmpI a.t a.s a.q a.g b.t b.s b.q b.g
theorem cmpI_lt (t s q g t' s' q' g' : Int) : cmpI t s q g t' s' q' g' < 0 ↔ t < t' ∨ (t = t' ∧ (s < s' ∨ (s = s' ∧ (q < q' ∨ (q = q' ∧ g < g'))))) := by
  unfold cmpI num
  split
  · split
    · omega
    · split <;> omega
  · split
    · split
      · omega
      · split <;> omega
    · split
      · split
        · omega
        · split <;> omega
      · split
        · omega
        · split <;> omega
theorem cmp_trans {a b c : Ev} (h : a.cmp b < 0) (k : b.cmp c < 0) : a.cmp c < 0 := by
  unfold Ev.cmp at *
  rw [cmpI_lt] at *
  omega
theorem cmp_neg {a b c : Ev} (h : ¬ a.cmp b < 0) (k : ¬ b.cmp c < 0) : ¬ a.cmp c < 0 := by
  unfold Ev.cmp at *
  rw [cmpI_lt] at *
  omega
theorem cmp_asymm {a b : Ev} (h : a.cmp b < 0) : ¬ b.cmp a < 0 := by
  unfold Ev.cmp at *
  rw [cmpI_lt] at *
  omega
theorem evAt_set (l : List Ev) (i j : Nat) (e : Ev) (h : i < l.length) : evAt (l.set i e) j = if i = j then e else evAt l j := by
  unfold evAt
  rw [List.getD_eq_getElem?_getD, List.getElem?_set]
  split
  · next h1 => subst h1; simp
  · simp
theorem evAt_left (l m : List Ev) (i : Nat) (h : i < l.length) : evAt (l ++ m) i = evAt l i := by
  unfold evAt
  rw [List.getD_eq_getElem?_getD, List.getD_eq_getElem?_getD, List.getElem?_append_left h]
theorem evAt_right (l m : List Ev) (i : Nat) : evAt (l ++ m) (l.length + i) = evAt m i := by
  unfold evAt
  rw [List.getD_eq_getElem?_getD, List.getD_eq_getElem?_getD, List.getElem?_append_right (by omega)]
  congr 2
  omega
theorem evAt_last (l : List Ev) (e : Ev) : evAt (l ++ [e]) l.length = e := by
  have := evAt_right l [e] 0
  rw [Nat.add_zero] at this
  exact this
def swp (l : List Ev) (i k : Nat) : List Ev := (l.set i (evAt l k)).set k (evAt l i)
theorem swp_length (l : List Ev) (i k : Nat) : (swp l i k).length = l.length := by simp [swp]
theorem evAt_swp (l : List Ev) (i k j : Nat) (hi : i < l.length) (hk : k < l.length) : evAt (swp l i k) j = if k = j then evAt l i else if i = j then evAt l k else evAt l j := by
  unfold swp
  rw [evAt_set _ _ _ _ (by simpa using hk), evAt_set _ _ _ _ hi]
theorem swp_append (l m : List Ev) (i k : Nat) (hi : i < l.length) (hk : k < l.length) : swp (l ++ m) i k = swp l i k ++ m := by
  unfold swp
  rw [evAt_left _ _ _ hi, evAt_left _ _ _ hk, List.set_append_left _ _ hi, List.set_append_left _ _ (by simpa using hk)]
theorem swp_comm (l : List Ev) (i k : Nat) : swp l i k = swp l k i := by
  unfold swp
  by_cases h : i = k
  · subst h; rfl
  · rw [List.set_comm _ _ h]
def upL (l : List Ev) (i : Nat) : List Ev :=
  if h : 0 < i ∧ (evAt l i).cmp (evAt l ((i - 1) / 2)) < 0 then upL (swp l i ((i - 1) / 2)) ((i - 1) / 2) else l
termination_by i
decreasing_by omega
theorem upL_go {l : List Ev} {i : Nat} (h : 0 < i) (hc : (evAt l i).cmp (evAt l ((i - 1) / 2)) < 0) : upL l i = upL (swp l i ((i - 1) / 2)) ((i - 1) / 2) := by
  rw [upL, dif_pos ⟨h, hc⟩]
theorem upL_stop {l : List Ev} {i : Nat} (h : ¬ (0 < i ∧ (evAt l i).cmp (evAt l ((i - 1) / 2)) < 0)) : upL l i = l := by
  rw [upL, dif_neg h]
theorem upL_length (l : List Ev) (i : Nat) : (upL l i).length = l.length := by
  induction i using Nat.strongRecOn generalizing l with
  | _ i ih =>
    by_cases h : 0 < i ∧ (evAt l i).cmp (evAt l ((i - 1) / 2)) < 0
    · rw [upL_go h.1 h.2, ih _ (by omega), swp_length]
    · rw [upL_stop h]
def pickL (l : List Ev) (n i : Nat) : Nat :=
  if 2 * i + 2 < n ∧ (evAt l (2 * i + 2)).cmp (evAt l (if 2 * i + 1 < n ∧ (evAt l (2 * i + 1)).cmp (evAt l i) < 0 then 2 * i + 1 else i)) < 0 then 2 * i + 2
  else if 2 * i + 1 < n ∧ (evAt l (2 * i + 1)).cmp (evAt l i) < 0 then 2 * i + 1 else i
theorem pickL_or (l : List Ev) (n i : Nat) : pickL l n i = i ∨ (pickL l n i = 2 * i + 1 ∧ 2 * i + 1 < n) ∨ (pickL l n i = 2 * i + 2 ∧ 2 * i + 2 < n) := by
  unfold pickL
  generalize hz : (if 2 * i + 1 < n ∧ (evAt l (2 * i + 1)).cmp (evAt l i) < 0 then 2 * i + 1 else i) = z
  by_cases h1 : 2 * i + 2 < n ∧ (evAt l (2 * i + 2)).cmp (evAt l z) < 0
  · rw [if_pos h1]; omega
  · rw [if_neg h1, ← hz]
    by_cases h2 : 2 * i + 1 < n ∧ (evAt l (2 * i + 1)).cmp (evAt l i) < 0
    · rw [if_pos h2]; omega
    · rw [if_neg h2]; omega
theorem pickL_cases (l : List Ev) (n i : Nat) : pickL l n i = i ∨ (i < pickL l n i ∧ pickL l n i < n) := by
  have := pickL_or l n i
  omega
def downL (l : List Ev) (n i : Nat) : List Ev :=
  if _h : i < pickL l n i then downL (swp l i (pickL l n i)) n (pickL l n i) else l
termination_by n - i
decreasing_by
  have := pickL_cases l n i
  omega
theorem downL_go {l : List Ev} {n i : Nat} (h : pickL l n i ≠ i) : downL l n i = downL (swp l i (pickL l n i)) n (pickL l n i) := by
  rw [downL, dif_pos (by have := pickL_cases l n i; omega)]
theorem downL_stop {l : List Ev} {n i : Nat} (h : pickL l n i = i) : downL l n i = l := by
  rw [downL, dif_neg (by omega)]
theorem downL_length (l : List Ev) (n i : Nat) : (downL l n i).length = l.length := by
  generalize hm : n - i = m
  induction m using Nat.strongRecOn generalizing l i with
  | _ m ih =>
    by_cases h : pickL l n i = i
    · rw [downL_stop h]
    · rw [downL_go h, ih _ (by have := pickL_cases l n i; omega) _ _ rfl, swp_length]
theorem pickL_append (l m : List Ev) (i : Nat) (hi : i < l.length) : pickL (l ++ m) l.length i = pickL l l.length i := by
  unfold pickL
  by_cases h1 : 2 * i + 1 < l.length
  · rw [evAt_left _ _ _ hi, evAt_left _ _ _ h1]
    by_cases h2 : 2 * i + 2 < l.length
    · rw [evAt_left _ _ _ h2]
      congr 3
      · split
        · rw [evAt_left _ _ _ h1]
        · rw [evAt_left _ _ _ hi]
    · simp [h2]
  · simp [h1, show ¬ 2 * i + 2 < l.length from by omega]
theorem downL_append (l m : List Ev) (i : Nat) (hi : i < l.length) : downL (l ++ m) l.length i = downL l l.length i ++ m := by
  generalize hm : l.length - i = k
  induction k using Nat.strongRecOn generalizing l i with
  | _ k ih =>
    by_cases h : pickL l l.length i = i
    · rw [downL_stop h, downL_stop (by rw [pickL_append _ _ _ hi]; exact h)]
    · have hc := (pickL_cases l l.length i).resolve_left h
      rw [downL_go h, downL_go (by rw [pickL_append _ _ _ hi]; exact h), pickL_append _ _ _ hi, swp_append _ _ _ _ hi hc.2]
      have := ih (l.length - pickL l l.length i) (by omega) (swp l i (pickL l l.length i)) (pickL l l.length i) (by rw [swp_length]; exact hc.2) (by rw [swp_length])
      rw [swp_length] at this
      exact this
def Kept (P : Ev → Prop) (l : List Ev) : Prop := ∀ j, j < l.length → P (evAt l j)
theorem kept_swp {P : Ev → Prop} {l : List Ev} {i k : Nat} (hi : i < l.length) (hk : k < l.length) : Kept P (swp l i k) ↔ Kept P l := by
  constructor
  · intro h j hj
    by_cases h1 : i = j
    · subst h1
      have := h k (by rw [swp_length]; exact hk)
      rwa [evAt_swp _ _ _ _ hi hk, if_pos rfl] at this
    · by_cases h2 : k = j
      · subst h2
        have := h i (by rw [swp_length]; exact hi)
        rwa [evAt_swp _ _ _ _ hi hk, if_neg (by omega), if_pos rfl] at this
      · have := h j (by rw [swp_length]; exact hj)
        rwa [evAt_swp _ _ _ _ hi hk, if_neg h2, if_neg h1] at this
  · intro h j hj
    rw [swp_length] at hj
    rw [evAt_swp _ _ _ _ hi hk]
    split
    · exact h i hi
    · split
      · exact h k hk
      · exact h j hj
theorem kept_upL {P : Ev → Prop} {l : List Ev} {i : Nat} (hi : i < l.length) : Kept P (upL l i) ↔ Kept P l := by
  induction i using Nat.strongRecOn generalizing l with
  | _ i ih =>
    by_cases h : 0 < i ∧ (evAt l i).cmp (evAt l ((i - 1) / 2)) < 0
    · rw [upL_go h.1 h.2, ih _ (by omega) (by rw [swp_length]; omega), kept_swp hi (by omega)]
    · rw [upL_stop h]
theorem kept_downL {P : Ev → Prop} {l : List Ev} {n i : Nat} (hn : n ≤ l.length) (hi : i < n) : Kept P (downL l n i) ↔ Kept P l := by
  generalize hm : n - i = m
  induction m using Nat.strongRecOn generalizing l i with
  | _ m ih =>
    by_cases h : pickL l n i = i
    · rw [downL_stop h]
    · have hc := (pickL_cases l n i).resolve_left h
      rw [downL_go h, ih (n - pickL l n i) (by omega) (by rw [swp_length]; exact hn) hc.2 rfl, kept_swp (by omega) (by omega)]
theorem kept_snoc {P : Ev → Prop} {l : List Ev} {e : Ev} : Kept P (l ++ [e]) ↔ Kept P l ∧ P e := by
  constructor
  · intro h
    refine ⟨fun j hj => ?_, ?_⟩
    · have := h j (by simp; omega)
      rwa [evAt_left _ _ _ hj] at this
    · have := h l.length (by simp)
      rwa [evAt_last] at this
  · rintro ⟨h1, h2⟩ j hj
    simp at hj
    by_cases e1 : j = l.length
    · subst e1; rw [evAt_last]; exact h2
    · rw [evAt_left _ _ _ (by omega)]; exact h1 j (by omega)
def pushL (l : List Ev) (e : Ev) : List Ev := upL (l ++ [e]) l.length
theorem pushL_length (l : List Ev) (e : Ev) : (pushL l e).length = l.length + 1 := by simp [pushL, upL_length]
theorem kept_pushL {P : Ev → Prop} {l : List Ev} {e : Ev} : Kept P (pushL l e) ↔ Kept P l ∧ P e := by
  unfold pushL
  rw [kept_upL (by simp), kept_snoc]
def cutL (l : List Ev) (i : Nat) : List Ev := (l.set i (evAt l (l.length - 1))).take (l.length - 1)
theorem cutL_length (l : List Ev) (i : Nat) : (cutL l i).length = l.length - 1 := by simp [cutL]
def takeL (l : List Ev) (i : Nat) : List Ev := if i < l.length - 1 then upL (downL (cutL l i) (l.length - 1) i) i else cutL l i
theorem takeL_length (l : List Ev) (i : Nat) : (takeL l i).length = l.length - 1 := by
  unfold takeL
  split
  · rw [upL_length, downL_length, cutL_length]
  · rw [cutL_length]
theorem evAt_take (l : List Ev) (k i : Nat) (h : i < k) : evAt (l.take k) i = evAt l i := by simp [evAt, List.getElem?_take_of_lt h]
theorem evAt_drop (l : List Ev) (k i : Nat) : evAt (l.drop k) i = evAt l (k + i) := by simp [evAt]
theorem ext_ev {l m : List Ev} (h : l.length = m.length) (hh : ∀ j, j < l.length → evAt l j = evAt m j) : l = m := by
  apply List.ext_getElem h
  intro j h1 h2
  have := hh j h1
  simpa [evAt, h1, h2] using this
theorem swp_cut (l : List Ev) (i : Nat) (hi : i < l.length) : swp l i (l.length - 1) = cutL l i ++ [evAt l i] := by
  have hc := cutL_length l i
  refine ext_ev (by rw [swp_length, List.length_append, hc, List.length_singleton]; omega) (fun j hj => ?_)
  rw [swp_length] at hj
  rw [evAt_swp _ _ _ _ hi (by omega)]
  by_cases h1 : l.length - 1 = j
  · rw [if_pos h1]
    subst h1
    have := evAt_last (cutL l i) (evAt l i)
    rw [hc] at this
    exact this.symm
  · rw [if_neg h1, evAt_left _ _ _ (by rw [hc]; omega)]
    unfold cutL
    rw [evAt_take _ _ _ (by omega), evAt_set _ _ _ _ hi]
theorem take_left (l m : List Ev) (n : Nat) (h : n = l.length) : (l ++ m).take n = l := by subst h; simp
theorem pop_same (l : List Ev) (h : 0 < l.length) : (downL (swp l 0 (l.length - 1)) (l.length - 1) 0).take (l.length - 1) = takeL l 0 ∧ evAt (downL (swp l 0 (l.length - 1)) (l.length - 1) 0) (l.length - 1) = evAt l 0 := by
  rw [swp_cut _ _ h]
  have hc := cutL_length l 0
  unfold takeL
  by_cases h1 : 0 < l.length - 1
  · rw [if_pos h1]
    have hd := downL_append (cutL l 0) [evAt l 0] 0 (by omega)
    rw [hc] at hd
    rw [hd, take_left _ _ _ (by rw [downL_length, hc]), upL_stop (by omega)]
    refine ⟨rfl, ?_⟩
    have := evAt_last (downL (cutL l 0) (l.length - 1) 0) (evAt l 0)
    rw [downL_length, hc] at this
    exact this
  · rw [if_neg h1]
    have hd : downL (cutL l 0 ++ [evAt l 0]) (l.length - 1) 0 = cutL l 0 ++ [evAt l 0] := downL_stop (by unfold pickL; rw [if_neg (by omega), if_neg (by omega)])
    rw [hd, take_left _ _ _ hc.symm]
    refine ⟨rfl, ?_⟩
    have := evAt_last (cutL l 0) (evAt l 0)
    rw [hc] at this
    exact this
theorem pick_lib (l : List Ev) (n i : Nat) : pickL l n i =
    if 2 * i + 1 < n then
      (if 2 * i + 2 < n ∧ (evAt l (2 * i + 2)).cmp (evAt l (2 * i + 1)) < 0 then (if (evAt l (2 * i + 2)).cmp (evAt l i) < 0 then 2 * i + 2 else i)
       else (if (evAt l (2 * i + 1)).cmp (evAt l i) < 0 then 2 * i + 1 else i))
    else i := by
  unfold pickL
  by_cases h1 : 2 * i + 1 < n
  · by_cases h2 : 2 * i + 2 < n
    · by_cases a : (evAt l (2 * i + 1)).cmp (evAt l i) < 0
      · by_cases b : (evAt l (2 * i + 2)).cmp (evAt l (2 * i + 1)) < 0
        · have := cmp_trans b a
          simp [h1, h2, a, b, this]
        · simp [h1, h2, a, b]
      · by_cases b : (evAt l (2 * i + 2)).cmp (evAt l (2 * i + 1)) < 0
        · simp [h1, h2, a, b]
        · have := cmp_neg b a
          simp [h1, h2, a, b, this]
    · simp [h1, h2]
  · simp [h1, show ¬ 2 * i + 2 < n from by omega]
end Go.Proofs.YtbljfphdghfkfaaGreatDoor

/- What turns, and what stays as it was. -/
namespace Go.Proofs.YtbljfphdghfkfaaGreatDoor
open Go.RowKit
structure Turns (S : Nat → Prop) (w w' : World) : Prop where
 os : w'.os = w.os
 tape : w'.tape = w.tape
 output : w'.output = w.output
 size : w.heap.size ≤ w'.heap.size
 block : ∀ k, k < w.heap.size → ¬ S k → w'.heap[k]? = w.heap[k]?
theorem Turns.refl (S : Nat → Prop) (w : World) : Turns S w w := ⟨rfl, rfl, rfl, Nat.le_refl _, fun _ _ _ => rfl⟩
theorem Turns.trans {S : Nat → Prop} {a b c : World} (h : Turns S a b) (k : Turns S b c) : Turns S a c :=
 ⟨k.os.trans h.os, k.tape.trans h.tape, k.output.trans h.output, Nat.le_trans h.size k.size, fun i hi hS => (k.block i (Nat.lt_of_lt_of_le hi h.size) hS).trans (h.block i hi hS)⟩
theorem Turns.drew {S : Nat → Prop} {a w : World} (h : Turns S a w) : Turns S a w.drew := ⟨h.os, h.tape, h.output, h.size, h.block⟩
theorem Turns.of_below {S : Nat → Prop} {w w' : World} (h : Below w.heap.size w w') : Turns S w w' := ⟨h.os, h.tape, h.output, h.size, fun k hk _ => h.block k hk⟩
theorem Turns.to_below {S : Nat → Prop} {w w' : World} {B : Nat} (h : Turns S w w') (hS : ∀ k, S k → B ≤ k) (hB : B ≤ w.heap.size) : Below B w w' :=
 ⟨h.os, h.tape, h.output, h.size, fun k hk => h.block k (by omega) (fun e => by have := hS k e; omega)⟩
theorem Turns.mono {S S' : Nat → Prop} {w w' : World} (h : Turns S w w') (hS : ∀ k, S k → S' k) : Turns S' w w' := ⟨h.os, h.tape, h.output, h.size, fun k hk hn => h.block k hk (fun e => hn (hS k e))⟩
theorem Turns.alloc {S : Nat → Prop} {a w : World} (h : Turns S a w) (o : Obj) : Turns S a (w.alloc o) := h.trans (Turns.of_below ((Below.refl _ w).alloc (Nat.le_refl _) o))
theorem Turns.setCell {S : Nat → Prop} {a w : World} (h : Turns S a w) {p : Addr} (hp : S p.block) (u : Value) : Turns S a (w.setCell p u) :=
 h.trans ⟨rfl, rfl, rfl, by simp [World.setCell], fun k _ hk => Below.heap_setCell _ _ _ _ (fun e => hk (e ▸ hp))⟩
theorem Turns.cell {S : Nat → Prop} {w w' : World} (h : Turns S w w') {b o : Nat} (hb : b < w.heap.size) (hS : ¬ S b) : w'.cell? ⟨b, o, none⟩ = w.cell? ⟨b, o, none⟩ := World.cell?_of_block (w := w) (h.block b hb hS)
theorem Turns.frozen {S : Nat → Prop} {w w' : World} (h : Turns S w w') {b o : Nat} (hb : b < w.heap.size) (hS : ¬ S b) : w'.frozen? ⟨b, o, none⟩ = w.frozen? ⟨b, o, none⟩ := World.frozen?_of_block (w := w) (h.block b hb hS)
end Go.Proofs.YtbljfphdghfkfaaGreatDoor

/- Rows of numbers: eqIntS where both sides are the same, markIntS, heldIntS. -/
namespace Go.Proofs.YtbljfphdghfkfaaGreatDoor
open Go.RowKit
def intAt (l : List Int) (i : Nat) : Int := l.getD i 0
def intCells (l : List Int) : List Value := l.map (Value.int .i64)
def IntsAt (w : World) (b off : Nat) (l : List Int) : Prop := b < w.heap.size ∧ ∀ i, i < l.length → w.cell? ⟨b, off + i, none⟩ = some (.int .i64 (intAt l i))
def IsI (w : World) (x : Value) (l : List Int) : Prop := ∃ a cap, x = .slice a l.length cap ∧ l.length ≤ cap ∧ cap ≤ maxLen ∧ (l = [] ∨ ∃ b off, a = some ⟨b, off, none⟩ ∧ IntsAt w b off l)
theorem IntsAt.below {w w' : World} {B b off : Nat} {l : List Int} (h : IntsAt w b off l) (hb : Below B w w') (hB : b < B) : IntsAt w' b off l :=
 ⟨Nat.lt_of_lt_of_le h.1 hb.size, fun i hi => (hb.cell hB).trans (h.2 i hi)⟩
theorem IsI.below {w w' : World} {x : Value} {l : List Int} (h : IsI w x l) (hb : Below w.heap.size w w') : IsI w' x l := by
 obtain ⟨a, cap, rfl, h1, h2, h⟩ := h
 exact ⟨a, cap, rfl, h1, h2, h.imp id (fun ⟨b, off, e, h⟩ => ⟨b, off, e, h.below hb h.1⟩)⟩
theorem setCell_grown (w : World) (g o : Nat) (v : Value) : w.grownBy (w.setCell ⟨g, o, none⟩ v) (some g) := by
 refine ⟨?_, ?_, ?_, by simp, fun k _ hk => Below.heap_setCell _ _ _ _ (fun e => hk (by rw [e]))⟩
 all_goals (unfold World.setCell; rfl)
def OwnI (B : Nat) (w : World) (x : Value) (l : List Int) : Prop := ∃ a cap, x = .slice a l.length cap ∧ l.length ≤ cap ∧ cap ≤ maxLen ∧ (l = [] ∨ ∃ g, a = some ⟨g, 0, none⟩ ∧ B ≤ g ∧ (∀ j, j < l.length → w.frozen? ⟨g, j, none⟩ = false) ∧ IntsAt w g 0 l)
theorem OwnI.nil (B : Nat) (w : World) : OwnI B w (.slice none 0 0) [] := ⟨none, 0, rfl, Nat.le_refl _, Nat.zero_le _, .inl rfl⟩
theorem OwnI.isI {B : Nat} {w : World} {x : Value} {l : List Int} (h : OwnI B w x l) : IsI w x l := by
 obtain ⟨a, cap, rfl, h1, h2, h⟩ := h
 exact ⟨a, cap, rfl, h1, h2, h.imp id (fun ⟨g, e, _, _, hr⟩ => ⟨g, 0, e, hr⟩)⟩
theorem OwnI.of_row {B : Nat} {w : World} {x : Value} {l : List Int} (h : w.ownsRow B 3 1 x l.length (intCells l)) : OwnI B w x l := by
 obtain ⟨hl, ⟨rfl, h0⟩ | ⟨g, cap, cur, rfl, hg, hc, h1, h2, h3, h4⟩⟩ := h
 ·exact ⟨none, 0, by rw [h0], by omega, by unfold maxLen; omega, .inl (List.eq_nil_of_length_eq_zero h0)⟩
 ·refine ⟨_, cap, rfl, h1, h2, .inr ⟨g, rfl, hg, fun j hj => ?_, (Array.getElem?_eq_some_iff.1 hc).1, fun i hi => ?_⟩⟩
  ·have hj2 : j < cur.size := by omega
   simp [World.frozen?, hc]
  ·have e1 : w.cell? ⟨g, i, none⟩ = (intCells l)[i]? := by
    rw [← h4, List.getElem?_take_of_lt (by omega)]
    simp [World.cell?, hc]
   rw [Nat.zero_add, e1]
   simp [intCells, intAt, hi]
end Go.Proofs.YtbljfphdghfkfaaGreatDoor

/- Ops and models as plain values. -/
namespace Go.Proofs.YtbljfphdghfkfaaGreatDoor
open Go.RowKit
structure O where
 c : Int
 a : Int
 b : Int
 k : Int
def oAt (l : List O) (i : Nat) : O := l.getD i ⟨0, 0, 0, 0⟩
def hAt (l : List (List O)) (i : Nat) : List O := l.getD i []
structure Md where
 n : Int
 s : Int
 i : List Int
 h : List (List O)
 e : List Ev
 z : Int
def okO (n len c a b k : Int) : Bool :=
 decide ((c = 0 ∧ 0 ≤ a ∧ a ≤ 1 ∧ 0 ≤ b ∧ b ≤ 999 ∧ k = 0) ∨ ((c = 1 ∨ c = 5) ∧ 0 ≤ a ∧ a ≤ 1 ∧ b = 0 ∧ k = 0) ∨ (c = 6 ∧ 0 ≤ a ∧ a ≤ 1 ∧ 1 ≤ b ∧ b ≤ 999 ∧ k = 0) ∨
  (c = 2 ∧ 0 ≤ a ∧ a < n ∧ 1 ≤ b ∧ b ≤ 50 ∧ 0 ≤ k ∧ k < len) ∨ (c = 3 ∧ 0 ≤ a ∧ a ≤ 1 ∧ 0 ≤ b ∧ b ≤ 999 ∧ 1 ≤ k ∧ k ≤ 8) ∨ (c = 4 ∧ 0 ≤ a ∧ a ≤ 3 ∧ 0 ≤ b ∧ b ≤ 1 ∧ k = 0))
def O.ok (n len : Int) (o : O) : Bool := okO n len o.c o.a o.b o.k
def O.cs (e : O) : List Value := [.int .i64 e.c, .int .i64 e.a, .int .i64 e.b, .int .i64 e.k]
abbrev O.val (e : O) : Value := .agg #[.int .i64 e.c, .int .i64 e.a, .int .i64 e.b, .int .i64 e.k]
def cellsO : List O → List Value
 | [] => []
 | e :: l => e.cs ++ cellsO l
theorem cellsO_length : ∀ l : List O, (cellsO l).length = l.length * 4
 | [] => rfl
 | e :: l => by simp [cellsO, cellsO_length l, O.cs]; omega
theorem cellsO_append : ∀ l l' : List O, cellsO (l ++ l') = cellsO l ++ cellsO l'
 | [], _ => rfl
 | e :: l, l' => by simp [cellsO, cellsO_append l l']
theorem oAt_cons_succ (e : O) (l : List O) (i : Nat) : oAt (e :: l) (i + 1) = oAt l i := by simp [oAt]
theorem cellsO_get : ∀ (l : List O) (i r : Nat), i < l.length → r < 4 → (cellsO l)[i * 4 + r]? = (oAt l i).cs[r]?
 | [], _, _, h, _ => by simp at h
 | e :: l, 0, r, _, hr => by
  have : r < e.cs.length := by simpa [O.cs] using hr
  simp only [cellsO, Nat.zero_mul, Nat.zero_add]
  rw [List.getElem?_append_left this]
  simp [oAt]
 | e :: l, i + 1, r, h, hr => by
  have h1 := cellsO_get l i r (by simpa using h) hr
  have : e.cs.length ≤ (i + 1) * 4 + r := by simp [O.cs]; omega
  simp only [cellsO]
  rw [List.getElem?_append_right this, oAt_cons_succ, ← h1]
  congr 1
  simp [O.cs]; omega
end Go.Proofs.YtbljfphdghfkfaaGreatDoor

/- Contracts of toEvent, within, l1num, Compare: plain values in, plain values out. -/
namespace Go.Proofs.YtbljfphdghfkfaaGreatDoor
open Go.RowKit
theorem ret_bool {a b : Bool} (h : a = b) : Ending.returned (.bool a) = .returned (.bool b) := by rw [h]
theorem ret_int {k : IntKind} {a b : Int} (h : a = b) : Ending.returned (.int k a) = .returned (.int k b) := by rw [h]
theorem ret_dec {p : Prop} [Decidable p] {b : Bool} (h : p ↔ b = true) : Ending.returned (.bool (decide p)) = .returned (.bool b) := by
 rw [show decide p = b from by cases b <;> simp_all]
set_option maxHeartbeats 400000 in
theorem within_any (x lo hi : Int) (w : World) :
  Calls Tryz.prog 31 #[.int .i64 x, .int .i64 lo, .int .i64 hi] w fun e w' =>
   e = .returned (.bool (decide (lo ≤ x) && decide (x ≤ hi))) ∧ w' = w := by
 go_enter Tryz.func31, Tryz.ntmps31
 go_wp2
 ·go_ret
  exact ⟨ret_dec (by simp_all), rfl⟩
 ·go_ret
  exact ⟨ret_bool (by simp; omega), rfl⟩
set_option maxHeartbeats 400000 in
theorem num_any (a b : Int) (w : World) :
  Calls Tryz.prog 87 #[.int .i64 a, .int .i64 b] w fun e w' => e = .returned (.int .i64 (num a b)) ∧ w' = w := by
 go_enter Tryz.func87, Tryz.ntmps87
 go_wp2
 all_goals (go_ret; exact ⟨ret_int (by unfold num; split <;> (try split) <;> omega), rfl⟩)
set_option maxHeartbeats 400000 in
theorem compare_any (a b : Int) (w : World) :
  Calls Tryz.prog 194 #[.int .i64 a, .int .i64 b] w fun e w' => e = .returned (.int .i64 (num a b)) ∧ w' = w := by
 go_enter Tryz.func194, Tryz.ntmps194
 go_wp2
 all_goals (go_ret; exact ⟨ret_int (by unfold num; split <;> (try split) <;> omega), rfl⟩)
end Go.Proofs.YtbljfphdghfkfaaGreatDoor

/- Small facts on worlds, and the order of two events. -/
namespace Go.Proofs.YtbljfphdghfkfaaGreatDoor
open Go.RowKit
def ecmp (t s q d k v g t' s' q' d' k' v' g' : Int) : Int := if okB t s q d k v g = true ∧ okB t' s' q' d' k' v' g' = true then cmpI t s q g t' s' q' g' else 0
theorem bcell {W w1 : World} (hb : Below W.heap.size W w1) : (∀ b o, b < W.heap.size → w1.cell? ⟨b, o, none⟩ = W.cell? ⟨b, o, none⟩) ∧ (∀ b o, b < W.heap.size → w1.frozen? ⟨b, o, none⟩ = W.frozen? ⟨b, o, none⟩) :=
 ⟨fun b o h => hb.cell (p := ⟨b, o, none⟩) h, fun b o h => hb.frozen (p := ⟨b, o, none⟩) h⟩
structure EvAt (w : World) (b o : Nat) (t s q d k v g : Int) : Prop where
 f0 : w.cell? ⟨b, o, none⟩ = some (.int .i64 t)
 f1 : w.cell? ⟨b, o + 1, none⟩ = some (.int .i64 s)
 f2 : w.cell? ⟨b, o + 2, none⟩ = some (.int .i64 q)
 f3 : w.cell? ⟨b, o + 3, none⟩ = some (.int .i64 d)
 f4 : w.cell? ⟨b, o + 4, none⟩ = some (.int .i64 k)
 f5 : w.cell? ⟨b, o + 5, none⟩ = some (.int .i64 v)
 f6 : w.cell? ⟨b, o + 6, none⟩ = some (.int .i64 g)
theorem EvAt.below {w w' : World} {B b o : Nat} {t s q d k v g : Int} (h : EvAt w b o t s q d k v g) (hb : Below B w w') (hlt : b < B) : EvAt w' b o t s q d k v g :=
 ⟨(hb.cell hlt).trans h.f0, (hb.cell hlt).trans h.f1, (hb.cell hlt).trans h.f2, (hb.cell hlt).trans h.f3, (hb.cell hlt).trans h.f4, (hb.cell hlt).trans h.f5, (hb.cell hlt).trans h.f6⟩
theorem EvAt.new (w : World) (T : TypeId) (t s q d k v g : Int) : EvAt (w.alloc (.cells #[.int .i64 t, .int .i64 s, .int .i64 q, .int .i64 d, .int .i64 k, .int .i64 v, .int .i64 g] T)) w.heap.size 0 t s q d k v g := by
 constructor <;> simp
theorem EvAt.alloc {w : World} {b o : Nat} {t s q d k v g : Int} (h : EvAt w b o t s q d k v g) (hlt : b < w.heap.size) (x : Obj) : EvAt (w.alloc x) b o t s q d k v g :=
 h.below ((Below.refl _ w).alloc (Nat.le_refl _) x) hlt
theorem EvAt.lits {w : World} {b : Nat} {t s q d k v g : Int} (h : EvAt w b 0 t s q d k v g) : w.cell? ⟨b, 0, none⟩ = some (.int .i64 t) ∧ w.cell? ⟨b, 1, none⟩ = some (.int .i64 s) ∧ w.cell? ⟨b, 2, none⟩ = some (.int .i64 q) ∧ w.cell? ⟨b, 3, none⟩ = some (.int .i64 d) ∧ w.cell? ⟨b, 4, none⟩ = some (.int .i64 k) ∧ w.cell? ⟨b, 5, none⟩ = some (.int .i64 v) ∧ w.cell? ⟨b, 6, none⟩ = some (.int .i64 g) :=
 ⟨h.f0, h.f1, h.f2, h.f3, h.f4, h.f5, h.f6⟩
end Go.Proofs.YtbljfphdghfkfaaGreatDoor

/- A list of events in memory, as the walks see it. -/
namespace Go.Proofs.YtbljfphdghfkfaaGreatDoor
open Go.RowKit
abbrev Ev.val (e : Ev) : Value := .agg #[.int .i64 e.t, .int .i64 e.s, .int .i64 e.q, .int .i64 e.d, .int .i64 e.k, .int .i64 e.v, .int .i64 e.g]
abbrev Ev.In (w : World) (b o : Nat) (e : Ev) : Prop := EvAt w b o e.t e.s e.q e.d e.k e.v e.g
def EvsAt (w : World) (b off : Nat) (l : List Ev) : Prop := b < w.heap.size ∧ ∀ i, i < l.length → Ev.In w b (off + i * 7) (evAt l i)
def IsEvs (w : World) (x : Value) (l : List Ev) : Prop := ∃ a cap, x = .slice a l.length cap ∧ l.length ≤ cap ∧ cap ≤ maxLen ∧ (l = [] ∨ ∃ b off, a = some ⟨b, off, none⟩ ∧ EvsAt w b off l)
theorem EvsAt.below {w w' : World} {B b off : Nat} {l : List Ev} (h : EvsAt w b off l) (hb : Below B w w') (hB : b < B) : EvsAt w' b off l :=
 ⟨Nat.lt_of_lt_of_le h.1 hb.size, fun i hi => (h.2 i hi).below hb hB⟩
theorem IsEvs.below {w w' : World} {x : Value} {l : List Ev} (h : IsEvs w x l) (hb : Below w.heap.size w w') : IsEvs w' x l := by
 obtain ⟨a, cap, rfl, h1, h2, h⟩ := h
 refine ⟨a, cap, rfl, h1, h2, ?_⟩
 rcases h with h | ⟨b, off, rfl, h⟩
 ·exact .inl h
 ·exact .inr ⟨b, off, rfl, h.below hb h.1⟩
abbrev put7 (w : World) (g o : Nat) (e : Ev) : World :=
 ((((((w.setCell ⟨g, o, none⟩ (.int .i64 e.t)).setCell ⟨g, o + 1, none⟩ (.int .i64 e.s)).setCell ⟨g, o + 2, none⟩ (.int .i64 e.q)).setCell ⟨g, o + 3, none⟩ (.int .i64 e.d)).setCell ⟨g, o + 4, none⟩ (.int .i64 e.k)).setCell ⟨g, o + 5, none⟩ (.int .i64 e.v)).setCell ⟨g, o + 6, none⟩ (.int .i64 e.g)
theorem info25 : (Tryz.prog.info? 53).map (fun i => (i.zero, i.size, i.bytes)) = some (some (.agg #[.int .i64 0, .int .i64 0, .int .i64 0, .int .i64 0, .int .i64 0, .int .i64 0, .int .i64 0]), 7, 56) := by kernel_rfl
end Go.Proofs.YtbljfphdghfkfaaGreatDoor

/- Events as a row of cells; a row of one's own. -/
namespace Go.Proofs.YtbljfphdghfkfaaGreatDoor
open Go.RowKit
def Ev.cs (e : Ev) : List Value := [.int .i64 e.t, .int .i64 e.s, .int .i64 e.q, .int .i64 e.d, .int .i64 e.k, .int .i64 e.v, .int .i64 e.g]
def cellsL : List Ev → List Value
 | [] => []
 | e :: l => e.cs ++ cellsL l
theorem cellsL_length : ∀ l : List Ev, (cellsL l).length = l.length * 7
 | [] => rfl
 | e :: l => by simp [cellsL, cellsL_length l, Ev.cs]; omega
theorem cellsL_append : ∀ l l' : List Ev, cellsL (l ++ l') = cellsL l ++ cellsL l'
 | [], _ => rfl
 | e :: l, l' => by simp [cellsL, cellsL_append l l']
theorem evAt_cons_succ (e : Ev) (l : List Ev) (i : Nat) : evAt (e :: l) (i + 1) = evAt l i := by simp [evAt]
theorem cellsL_get : ∀ (l : List Ev) (i r : Nat), i < l.length → r < 7 → (cellsL l)[i * 7 + r]? = (evAt l i).cs[r]?
 | [], _, _, h, _ => by simp at h
 | e :: l, 0, r, _, hr => by
  have : r < e.cs.length := by simpa [Ev.cs] using hr
  simp only [cellsL, Nat.zero_mul, Nat.zero_add]
  rw [List.getElem?_append_left this]
  simp [evAt]
 | e :: l, i + 1, r, h, hr => by
  have h1 := cellsL_get l i r (by simpa using h) hr
  have : e.cs.length ≤ (i + 1) * 7 + r := by simp [Ev.cs]; omega
  simp only [cellsL]
  rw [List.getElem?_append_right this, evAt_cons_succ, ← h1]
  congr 1
  simp [Ev.cs]; omega
theorem cellsL_one (l : List Ev) : ∀ u ∈ cellsL l, u.oneCell' = true := by
 induction l with
 | nil => intro u h; cases h
 | cons e l ih =>
  intro u h
  rcases List.mem_append.1 h with h | h
  ·simp [Ev.cs] at h
   rcases h with rfl | rfl | rfl | rfl | rfl | rfl | rfl <;> rfl
  ·exact ih u h
theorem Ev.In.get {w : World} {b o : Nat} {e : Ev} (h : Ev.In w b o e) {r : Nat} {u : Value} (hu : e.cs[r]? = some u) : w.cell? ⟨b, o + r, none⟩ = some u := by
 have hr : r < 7 := by have := (List.getElem?_eq_some_iff.1 hu).1; simpa [Ev.cs] using this
 have h7 : r = 0 ∨ r = 1 ∨ r = 2 ∨ r = 3 ∨ r = 4 ∨ r = 5 ∨ r = 6 := by omega
 rcases h7 with rfl | rfl | rfl | rfl | rfl | rfl | rfl <;> (simp [Ev.cs] at hu; subst hu)
 ·exact h.f0
 ·exact h.f1
 ·exact h.f2
 ·exact h.f3
 ·exact h.f4
 ·exact h.f5
 ·exact h.f6
theorem addr_add (b off n : Nat) : (⟨b, off, none⟩ : Addr).add n = ⟨b, off + n, none⟩ := by
 unfold Addr.add
 split <;> simp_all
theorem EvsAt.cells {w : World} {b off : Nat} {l : List Ev} (h : EvsAt w b off l) : ∀ j u, (cellsL l)[j]? = some u → w.cell? ((⟨b, off, none⟩ : Addr).add j) = some u := by
 intro j u hu
 have hj : j < l.length * 7 := by have := (List.getElem?_eq_some_iff.1 hu).1; rw [cellsL_length] at this; exact this
 rw [addr_add]
 have hi : j / 7 < l.length := by omega
 rw [show j = j / 7 * 7 + j % 7 from by omega, cellsL_get l _ _ hi (by omega)] at hu
 have := (h.2 _ hi).get hu
 rw [show off + j = off + j / 7 * 7 + j % 7 from by omega]
 exact this
end Go.Proofs.YtbljfphdghfkfaaGreatDoor

/- Rows of cells in blocks of F: what they hold, and what stays of them. -/
namespace Go.Proofs.YtbljfphdghfkfaaGreatDoor
open Go.RowKit
def RowF (F : Nat → Prop) (w : World) (x : Value) (n c : Nat) (cs : List Value) : Prop :=
 cs.length = n * c ∧ ∃ a cap, x = .slice a n cap ∧ n ≤ cap ∧ cap ≤ maxLen ∧
  (n = 0 ∨ ∃ g, a = some ⟨g, 0, none⟩ ∧ F g ∧ g < w.heap.size ∧ ∀ j, j < n * c → w.cell? ⟨g, j, none⟩ = cs[j]? ∧ w.frozen? ⟨g, j, none⟩ = false)
theorem RowF.turns {F S : Nat → Prop} {w w' : World} {x : Value} {n c : Nat} {cs : List Value} (h : RowF F w x n c cs) (ht : Turns S w w') (hS : ∀ k, F k → ¬ S k) : RowF F w' x n c cs := by
 obtain ⟨hl, a, cap, rfl, h1, h2, h⟩ := h
 refine ⟨hl, a, cap, rfl, h1, h2, h.imp id ?_⟩
 rintro ⟨g, rfl, hF, hg, hc⟩
 exact ⟨g, rfl, hF, Nat.lt_of_lt_of_le hg ht.size, fun j hj => by rw [ht.cell hg (hS g hF), ht.frozen hg (hS g hF)]; exact hc j hj⟩
theorem RowF.below {F : Nat → Prop} {w w' : World} {x : Value} {n c : Nat} {cs : List Value} (h : RowF F w x n c cs) (hb : Below w.heap.size w w') : RowF F w' x n c cs :=
 h.turns (S := fun _ => False) (Turns.of_below hb) (fun _ _ => id)
theorem RowF.mono {F F' : Nat → Prop} {w : World} {x : Value} {n c : Nat} {cs : List Value} (h : RowF F w x n c cs) (hF : ∀ k, F k → F' k) : RowF F' w x n c cs := by
 obtain ⟨hl, a, cap, rfl, h1, h2, h⟩ := h
 exact ⟨hl, a, cap, rfl, h1, h2, h.imp id (fun ⟨g, e, h3, h4⟩ => ⟨g, e, hF g h3, h4⟩)⟩
theorem RowF.of_owns {B : Nat} {T : TypeId} {w : World} {x : Value} {n c : Nat} {cs : List Value} (hcs : cs.length = n * c) (h : w.ownsRow B T c x n cs) : RowF (fun k => B ≤ k ∧ k < w.heap.size) w x n c cs := by
 obtain ⟨hl, ⟨rfl, h0⟩ | ⟨g, cap, cur, rfl, hg, hc, h1, h2, h3, h4⟩⟩ := h
 ·exact ⟨hcs, none, 0, by rw [h0], by omega, by unfold maxLen; omega, .inl h0⟩
 ·have hlt : g < w.heap.size := (Array.getElem?_eq_some_iff.1 hc).1
  refine ⟨hcs, _, cap, rfl, h1, h2, .inr ⟨g, rfl, ⟨hg, hlt⟩, hlt, fun j hj => ?_⟩⟩
  have hj2 : j < cur.size := by rw [h3]; exact Nat.lt_of_lt_of_le hj (Nat.mul_le_mul_right c h1)
  refine ⟨?_, by simp [World.frozen?, hc]⟩
  rw [← h4, List.getElem?_take_of_lt (by omega)]
  simp [World.cell?, hc]
theorem intCells_length (l : List Int) : (intCells l).length = l.length := by simp [intCells]
theorem RowF.isI {F : Nat → Prop} {w : World} {x : Value} {l : List Int} (h : RowF F w x l.length 1 (intCells l)) : IsI w x l := by
 obtain ⟨hl, a, cap, rfl, h1, h2, h⟩ := h
 refine ⟨a, cap, rfl, h1, h2, h.imp List.eq_nil_of_length_eq_zero ?_⟩
 rintro ⟨g, rfl, hF, hg, hc⟩
 refine ⟨g, 0, rfl, hg, fun i hi => ?_⟩
 rw [Nat.zero_add, (hc i (by omega)).1]
 simp [intCells, intAt, hi]
structure OAt (w : World) (b o : Nat) (e : O) : Prop where
 f0 : w.cell? ⟨b, o, none⟩ = some (.int .i64 e.c)
 f1 : w.cell? ⟨b, o + 1, none⟩ = some (.int .i64 e.a)
 f2 : w.cell? ⟨b, o + 2, none⟩ = some (.int .i64 e.b)
 f3 : w.cell? ⟨b, o + 3, none⟩ = some (.int .i64 e.k)
theorem OAt.below {w w' : World} {B b o : Nat} {e : O} (h : OAt w b o e) (hb : Below B w w') (hlt : b < B) : OAt w' b o e :=
 ⟨(hb.cell hlt).trans h.f0, (hb.cell hlt).trans h.f1, (hb.cell hlt).trans h.f2, (hb.cell hlt).trans h.f3⟩
def OsAt (w : World) (b off : Nat) (l : List O) : Prop := b < w.heap.size ∧ ∀ i, i < l.length → OAt w b (off + i * 4) (oAt l i)
def IsO (w : World) (x : Value) (l : List O) : Prop := ∃ a cap, x = .slice a l.length cap ∧ l.length ≤ cap ∧ cap ≤ maxLen ∧ (l = [] ∨ ∃ b off, a = some ⟨b, off, none⟩ ∧ OsAt w b off l)
theorem OsAt.below {w w' : World} {B b off : Nat} {l : List O} (h : OsAt w b off l) (hb : Below B w w') (hB : b < B) : OsAt w' b off l :=
 ⟨Nat.lt_of_lt_of_le h.1 hb.size, fun i hi => (h.2 i hi).below hb hB⟩
theorem IsO.below {w w' : World} {x : Value} {l : List O} (h : IsO w x l) (hb : Below w.heap.size w w') : IsO w' x l := by
 obtain ⟨a, cap, rfl, h1, h2, h⟩ := h
 exact ⟨a, cap, rfl, h1, h2, h.imp id (fun ⟨b, off, e, h⟩ => ⟨b, off, e, h.below hb h.1⟩)⟩
theorem RowF.isO {F : Nat → Prop} {w : World} {x : Value} {l : List O} (h : RowF F w x l.length 4 (cellsO l)) : IsO w x l := by
 obtain ⟨hl, a, cap, rfl, h1, h2, h⟩ := h
 refine ⟨a, cap, rfl, h1, h2, h.imp List.eq_nil_of_length_eq_zero ?_⟩
 rintro ⟨g, rfl, hF, hg, hc⟩
 refine ⟨g, 0, rfl, hg, fun i hi => ?_⟩
 have hget : ∀ r, r < 4 → w.cell? ⟨g, 0 + i * 4 + r, none⟩ = (oAt l i).cs[r]? := fun r hr => by
  rw [← cellsO_get l i r hi hr, Nat.zero_add]
  exact (hc _ (by omega)).1
 exact ⟨hget 0 (by omega), hget 1 (by omega), hget 2 (by omega), hget 3 (by omega)⟩
theorem RowF.isEvs {F : Nat → Prop} {w : World} {x : Value} {l : List Ev} (h : RowF F w x l.length 7 (cellsL l)) : IsEvs w x l := by
 obtain ⟨hl, a, cap, rfl, h1, h2, h⟩ := h
 refine ⟨a, cap, rfl, h1, h2, h.imp List.eq_nil_of_length_eq_zero ?_⟩
 rintro ⟨g, rfl, hF, hg, hc⟩
 refine ⟨g, 0, rfl, hg, fun i hi => ?_⟩
 have hget : ∀ r, r < 7 → w.cell? ⟨g, 0 + i * 7 + r, none⟩ = (evAt l i).cs[r]? := fun r hr => by
  rw [← cellsL_get l i r hi hr, Nat.zero_add]
  exact (hc _ (by omega)).1
 exact ⟨hget 0 (by omega), hget 1 (by omega), hget 2 (by omega), hget 3 (by omega), hget 4 (by omega), hget 5 (by omega), hget 6 (by omega)⟩
def IsH (w : World) (x : Value) (l : List (List O)) : Prop := ∃ a cap, x = .slice a l.length cap ∧ l.length ≤ cap ∧ cap ≤ maxLen ∧
 (l = [] ∨ ∃ b off, a = some ⟨b, off, none⟩ ∧ b < w.heap.size ∧ ∀ i, i < l.length → ∃ u, w.cell? ⟨b, off + i, none⟩ = some u ∧ IsO w u (hAt l i))
theorem IsH.below {w w' : World} {x : Value} {l : List (List O)} (h : IsH w x l) (hb : Below w.heap.size w w') : IsH w' x l := by
 obtain ⟨a, cap, rfl, h1, h2, h⟩ := h
 exact ⟨a, cap, rfl, h1, h2, h.imp id (fun ⟨b, off, e, hB, h⟩ => ⟨b, off, e, Nat.lt_of_lt_of_le hB hb.size, fun i hi => by
  obtain ⟨u, hu, ho⟩ := h i hi
  exact ⟨u, (hb.cell (p := ⟨b, off + i, none⟩) hB).trans hu, ho.below hb⟩⟩)⟩
def RowsF (F : Nat → Prop) (w : World) (x : Value) (n : Nat) (U : Nat → Value) (L : Nat → Nat) (C : Nat → List Value) : Prop :=
 ∃ (F0 : Nat → Prop) (G : Nat → Nat → Prop), RowF F0 w x n 1 ((List.range n).map U) ∧ (∀ k, F0 k → F k) ∧
  (∀ i, i < n → RowF (G i) w (U i) (L i) 4 (C i) ∧ ∀ k, G i k → F k ∧ ¬ F0 k) ∧ ∀ i j, i < n → j < n → i ≠ j → ∀ k, G i k → ¬ G j k
theorem RowsF.turns {F S : Nat → Prop} {w w' : World} {x : Value} {n : Nat} {U : Nat → Value} {L : Nat → Nat} {C : Nat → List Value} (h : RowsF F w x n U L C) (ht : Turns S w w') (hS : ∀ k, F k → ¬ S k) : RowsF F w' x n U L C := by
 obtain ⟨F0, G, h0, hF, h1, h2⟩ := h
 exact ⟨F0, G, h0.turns ht (fun k hk => hS k (hF k hk)), hF, fun i hi => ⟨(h1 i hi).1.turns ht (fun k hk => hS k ((h1 i hi).2 k hk).1), (h1 i hi).2⟩, h2⟩
def HsF (F : Nat → Prop) (w : World) (x : Value) (l : List (List O)) : Prop := ∃ U, RowsF F w x l.length U (fun i => (hAt l i).length) (fun i => cellsO (hAt l i))
theorem HsF.isH {F : Nat → Prop} {w : World} {x : Value} {l : List (List O)} (h : HsF F w x l) : IsH w x l := by
 obtain ⟨U, F0, G, ⟨hl, a, cap, rfl, h1, h2, h⟩, hF, h3, _⟩ := h
 refine ⟨a, cap, rfl, h1, h2, h.imp List.eq_nil_of_length_eq_zero ?_⟩
 rintro ⟨g, rfl, _, hg, hc⟩
 refine ⟨g, 0, rfl, hg, fun i hi => ⟨U i, ?_, (h3 i hi).1.isO⟩⟩
 rw [Nat.zero_add, (hc i (by omega)).1]
 simp [hi]
def IsM (w : World) (x : Value) (m : Md) : Prop := ∃ vi vh vs, x = .agg #[.int .i64 m.n, .int .i64 m.s, vi, vh, vs, .int .i64 m.z] ∧ IsI w vi m.i ∧ IsH w vh m.h ∧ IsEvs w vs m.e
theorem IsM.below {w w' : World} {x : Value} {m : Md} (h : IsM w x m) (hb : Below w.heap.size w w') : IsM w' x m := by
 obtain ⟨vi, vh, vs, rfl, h1, h2, h3⟩ := h
 exact ⟨vi, vh, vs, rfl, h1.below hb, h2.below hb, h3.below hb⟩
def MdF (F : Nat → Prop) (w : World) (x : Value) (m : Md) : Prop :=
 ∃ (A B C : Nat → Prop) (vi vh vs : Value), x = .agg #[.int .i64 m.n, .int .i64 m.s, vi, vh, vs, .int .i64 m.z] ∧ RowF A w vi m.i.length 1 (intCells m.i) ∧ HsF B w vh m.h ∧ RowF C w vs m.e.length 7 (cellsL m.e) ∧
  (∀ k, A k → F k ∧ ¬ B k ∧ ¬ C k) ∧ (∀ k, B k → F k ∧ ¬ C k) ∧ ∀ k, C k → F k
theorem MdF.isM {F : Nat → Prop} {w : World} {x : Value} {m : Md} (h : MdF F w x m) : IsM w x m := by
 obtain ⟨A, B, C, vi, vh, vs, rfl, h1, h2, h3, _⟩ := h
 exact ⟨vi, vh, vs, rfl, h1.isI, h2.isH, h3.isEvs⟩
theorem MdF.turns {F S : Nat → Prop} {w w' : World} {x : Value} {m : Md} (h : MdF F w x m) (ht : Turns S w w') (hS : ∀ k, F k → ¬ S k) : MdF F w' x m := by
 obtain ⟨A, B, C, vi, vh, vs, rfl, h1, ⟨U, h2⟩, h3, h4, h5, h6⟩ := h
 exact ⟨A, B, C, vi, vh, vs, rfl, h1.turns ht (fun k hk => hS k (h4 k hk).1), ⟨U, h2.turns ht (fun k hk => hS k (h5 k hk).1)⟩, h3.turns ht (fun k hk => hS k (h6 k hk)), h4, h5, h6⟩
end Go.Proofs.YtbljfphdghfkfaaGreatDoor

/- toIntS: a row of one's own. -/
namespace Go.Proofs.YtbljfphdghfkfaaGreatDoor
open Go.RowKit
def RowI (w : World) (g : Nat) (l : List Int) : Prop := g < w.heap.size ∧ ∀ j, j < l.length → w.cell? ⟨g, j, none⟩ = some (.int .i64 (intAt l j)) ∧ w.frozen? ⟨g, j, none⟩ = false
theorem RowI.below {w w' : World} {B g : Nat} {l : List Int} (h : RowI w g l) (hb : Below B w w') (hB : g < B) : RowI w' g l :=
 ⟨Nat.lt_of_lt_of_le h.1 hb.size, fun j hj => by rw [hb.cell (p := ⟨g, j, none⟩) hB, hb.frozen (p := ⟨g, j, none⟩) hB]; exact h.2 j hj⟩
abbrev sl (g n : Nat) : Value := .slice (some ⟨g, 0, none⟩) n n
theorem info3 : (Tryz.prog.info? 3).map (fun i => (i.zero, i.size, i.bytes)) = some (some (.int .i64 0), 1, 8) := by kernel_rfl
theorem info_parts {i : TypeId} {z : Option Value} {s b : Nat} (h : (Tryz.prog.info? i).map (fun i => (i.zero, i.size, i.bytes)) = some (z, s, b)) : ∃ i0, Tryz.prog.info? i = some i0 ∧ i0.zero = z ∧ i0.size = s ∧ i0.bytes = b := by
 obtain ⟨i0, h1, h2⟩ := Option.map_eq_some_iff.1 h
 simp only [Prod.mk.injEq] at h2
 exact ⟨i0, h1, h2.1, h2.2.1, h2.2.2⟩
end Go.Proofs.YtbljfphdghfkfaaGreatDoor

/- toOp, toOpS: ops that are copied into a row of one's own. -/
namespace Go.Proofs.YtbljfphdghfkfaaGreatDoor
open Go.RowKit
theorem infoOp : (Tryz.prog.info? 39).map (fun i => (i.zero, i.size, i.bytes)) = some (some (.agg #[.int .i64 0, .int .i64 0, .int .i64 0, .int .i64 0]), 4, 32) := by kernel_rfl
end Go.Proofs.YtbljfphdghfkfaaGreatDoor

/- szModel: whether there is too much of it. -/
namespace Go.Proofs.YtbljfphdghfkfaaGreatDoor
open Go.RowKit
def sumL (L : Nat → Nat) : Nat → Nat
 | 0 => 0
 | k + 1 => sumL L k + L k
def lens (l : List (List O)) (i : Nat) : Nat := (hAt l i).length
end Go.Proofs.YtbljfphdghfkfaaGreatDoor

