/- Pure, NTurn, NInts, MPure, Base -/
import Derived.Test.YtbljfphdghfkfaaGreatDoorRows
import Derived.WalkKit
import Derived.Below
import Derived.OwnWalk
import Derived.Deep.RegionHeld3
import Derived.WalkSpells
import Derived.WalkLawsBesides
import Derived.Outline
/- Events and heaps of them as plain lists: lifting, sinking, taking out; what the library does and what the document says come to the same. -/
namespace Go.Proofs.YtbljfphdghfkfaaGreatDoor
def okB (t s q d k v g : Int) : Bool := decide (0 ≤ t ∧ t ≤ 1000 ∧ -1 ≤ s ∧ s ≤ 3 ∧ 0 ≤ q ∧ q ≤ 100000 ∧ 0 ≤ d ∧ d ≤ 3 ∧ 0 ≤ k ∧ k ≤ 3 ∧ 0 ≤ v ∧ v ≤ 999 ∧ 0 ≤ g ∧ g ≤ 100000)
def num (a b : Int) : Int := if a < b then -1 else if b < a then 1 else 0
def cmpI (t s q g t' s' q' g' : Int) : Int := if t ≠ t' then num t t' else if s ≠ s' then num s s' else if q ≠ q' then num q q' else num g g'
structure Ev where
  t : Int
  s : Int
  q : Int
  d : Int
  k : Int
  v : Int
  g : Int
def evAt (l : List Ev) (i : Nat) : Ev := l.getD i ⟨0, 0, 0, 0, 0, 0, 0⟩
def Ev.ok (e : Ev) : Bool := okB e.t e.s e.q e.d e.k e.v e.g
def Ev.cmp (a b : Ev) : Int := cmpI a.t a.s a.q a.g b.t b.s b.q b.g
theorem cmpI_lt (t s q g t' s' q' g' : Int) : cmpI t s q g t' s' q' g' < 0 ↔ t < t' ∨ (t = t' ∧ (s < s' ∨ (s = s' ∧ (q < q' ∨ (q = q' ∧ g < g'))))) := by
  unfold cmpI num
  split
  · split
    · omega
    · split <;> omega
  · split
    · split
      · omega
      · split <;> omega
    · split
      · split
        · omega
        · split <;> omega
      · split
        · omega
        · split <;> omega
theorem cmp_trans {a b c : Ev} (h : a.cmp b < 0) (k : b.cmp c < 0) : a.cmp c < 0 := by
  unfold Ev.cmp at *
  rw [cmpI_lt] at *
  omega
theorem cmp_neg {a b c : Ev} (h : ¬ a.cmp b < 0) (k : ¬ b.cmp c < 0) : ¬ a.cmp c < 0 := by
  unfold Ev.cmp at *
  rw [cmpI_lt] at *
  omega
theorem cmp_asymm {a b : Ev} (h : a.cmp b < 0) : ¬ b.cmp a < 0 := by
  unfold Ev.cmp at *
  rw [cmpI_lt] at *
  omega
theorem evAt_set (l : List Ev) (i j : Nat) (e : Ev) (h : i < l.length) : evAt (l.set i e) j = if i = j then e else evAt l j := by
  unfold evAt
  rw [List.getD_eq_getElem?_getD, List.getElem?_set]
  split
  · next h1 => subst h1; simp
  · simp
theorem evAt_left (l m : List Ev) (i : Nat) (h : i < l.length) : evAt (l ++ m) i = evAt l i := by
  unfold evAt
  rw [List.getD_eq_getElem?_getD, List.getD_eq_getElem?_getD, List.getElem?_append_left h]
theorem evAt_right (l m : List Ev) (i : Nat) : evAt (l ++ m) (l.length + i) = evAt m i := by
  unfold evAt
  rw [List.getD_eq_getElem?_getD, List.getD_eq_getElem?_getD, List.getElem?_append_right (by omega)]
  congr 2
  omega
theorem evAt_last (l : List Ev) (e : Ev) : evAt (l ++ [e]) l.length = e := by
  have := evAt_right l [e] 0
  rw [Nat.add_zero] at this
  exact this
def swp (l : List Ev) (i k : Nat) : List Ev := (l.set i (evAt l k)).set k (evAt l i)
theorem swp_length (l : List Ev) (i k : Nat) : (swp l i k).length = l.length := by simp [swp]
theorem evAt_swp (l : List Ev) (i k j : Nat) (hi : i < l.length) (hk : k < l.length) : evAt (swp l i k) j = if k = j then evAt l i else if i = j then evAt l k else evAt l j := by
  unfold swp
  rw [evAt_set _ _ _ _ (by simpa using hk), evAt_set _ _ _ _ hi]
theorem swp_append (l m : List Ev) (i k : Nat) (hi : i < l.length) (hk : k < l.length) : swp (l ++ m) i k = swp l i k ++ m := by
  unfold swp
  rw [evAt_left _ _ _ hi, evAt_left _ _ _ hk, List.set_append_left _ _ hi, List.set_append_left _ _ (by simpa using hk)]
theorem swp_comm (l : List Ev) (i k : Nat) : swp l i k = swp l k i := by
  unfold swp
  by_cases h : i = k
  · subst h; rfl
  · rw [List.set_comm _ _ h]
def upL (l : List Ev) (i : Nat) : List Ev :=
  if h : 0 < i ∧ (evAt l i).cmp (evAt l ((i - 1) / 2)) < 0 then upL (swp l i ((i - 1) / 2)) ((i - 1) / 2) else l
termination_by i
decreasing_by omega
theorem upL_go {l : List Ev} {i : Nat} (h : 0 < i) (hc : (evAt l i).cmp (evAt l ((i - 1) / 2)) < 0) : upL l i = upL (swp l i ((i - 1) / 2)) ((i - 1) / 2) := by
  rw [upL, dif_pos ⟨h, hc⟩]
theorem upL_stop {l : List Ev} {i : Nat} (h : ¬ (0 < i ∧ (evAt l i).cmp (evAt l ((i - 1) / 2)) < 0)) : upL l i = l := by
  rw [upL, dif_neg h]
theorem upL_length (l : List Ev) (i : Nat) : (upL l i).length = l.length := by
  induction i using Nat.strongRecOn generalizing l with
  | _ i ih =>
    by_cases h : 0 < i ∧ (evAt l i).cmp (evAt l ((i - 1) / 2)) < 0
    · rw [upL_go h.1 h.2, ih _ (by omega), swp_length]
    · rw [upL_stop h]
def pickL (l : List Ev) (n i : Nat) : Nat :=
  if 2 * i + 2 < n ∧ (evAt l (2 * i + 2)).cmp (evAt l (if 2 * i + 1 < n ∧ (evAt l (2 * i + 1)).cmp (evAt l i) < 0 then 2 * i + 1 else i)) < 0 then 2 * i + 2
  else if 2 * i + 1 < n ∧ (evAt l (2 * i + 1)).cmp (evAt l i) < 0 then 2 * i + 1 else i
theorem pickL_or (l : List Ev) (n i : Nat) : pickL l n i = i ∨ (pickL l n i = 2 * i + 1 ∧ 2 * i + 1 < n) ∨ (pickL l n i = 2 * i + 2 ∧ 2 * i + 2 < n) := by
  unfold pickL
  generalize hz : (if 2 * i + 1 < n ∧ (evAt l (2 * i + 1)).cmp (evAt l i) < 0 then 2 * i + 1 else i) = z
  by_cases h1 : 2 * i + 2 < n ∧ (evAt l (2 * i + 2)).cmp (evAt l z) < 0
  · rw [if_pos h1]; omega
  · rw [if_neg h1, ← hz]
    by_cases h2 : 2 * i + 1 < n ∧ (evAt l (2 * i + 1)).cmp (evAt l i) < 0
    · rw [if_pos h2]; omega
    · rw [if_neg h2]; omega
theorem pickL_cases (l : List Ev) (n i : Nat) : pickL l n i = i ∨ (i < pickL l n i ∧ pickL l n i < n) := by
  have := pickL_or l n i
  omega
def downL (l : List Ev) (n i : Nat) : List Ev :=
  if _h : i < pickL l n i then downL (swp l i (pickL l n i)) n (pickL l n i) else l
termination_by n - i
decreasing_by
  have := pickL_cases l n i
  omega
theorem downL_go {l : List Ev} {n i : Nat} (h : pickL l n i ≠ i) : downL l n i = downL (swp l i (pickL l n i)) n (pickL l n i) := by
  rw [downL, dif_pos (by have := pickL_cases l n i; omega)]
theorem downL_stop {l : List Ev} {n i : Nat} (h : pickL l n i = i) : downL l n i = l := by
  rw [downL, dif_neg (by omega)]
theorem downL_length (l : List Ev) (n i : Nat) : (downL l n i).length = l.length := by
  generalize hm : n - i = m
  induction m using Nat.strongRecOn generalizing l i with
  | _ m ih =>
    by_cases h : pickL l n i = i
    · rw [downL_stop h]
    · rw [downL_go h, ih _ (by have := pickL_cases l n i; omega) _ _ rfl, swp_length]
theorem pickL_append (l m : List Ev) (i : Nat) (hi : i < l.length) : pickL (l ++ m) l.length i = pickL l l.length i := by
  unfold pickL
  by_cases h1 : 2 * i + 1 < l.length
  · rw [evAt_left _ _ _ hi, evAt_left _ _ _ h1]
    by_cases h2 : 2 * i + 2 < l.length
    · rw [evAt_left _ _ _ h2]
      congr 3
      · split
        · rw [evAt_left _ _ _ h1]
        · rw [evAt_left _ _ _ hi]
    · simp [h2]
  · simp [h1, show ¬ 2 * i + 2 < l.length from by omega]
theorem downL_append (l m : List Ev) (i : Nat) (hi : i < l.length) : downL (l ++ m) l.length i = downL l l.length i ++ m := by
  generalize hm : l.length - i = k
  induction k using Nat.strongRecOn generalizing l i with
  | _ k ih =>
    by_cases h : pickL l l.length i = i
    · rw [downL_stop h, downL_stop (by rw [pickL_append _ _ _ hi]; exact h)]
    · have hc := (pickL_cases l l.length i).resolve_left h
      rw [downL_go h, downL_go (by rw [pickL_append _ _ _ hi]; exact h), pickL_append _ _ _ hi, swp_append _ _ _ _ hi hc.2]
      have := ih (l.length - pickL l l.length i) (by omega) (swp l i (pickL l l.length i)) (pickL l l.length i) (by rw [swp_length]; exact hc.2) (by rw [swp_length])
      rw [swp_length] at this
      exact this
def Kept (P : Ev → Prop) (l : List Ev) : Prop := ∀ j, j < l.length → P (evAt l j)
theorem kept_swp {P : Ev → Prop} {l : List Ev} {i k : Nat} (hi : i < l.length) (hk : k < l.length) : Kept P (swp l i k) ↔ Kept P l := by
  constructor
  · intro h j hj
    by_cases h1 : i = j
    · subst h1
      have := h k (by rw [swp_length]; exact hk)
      rwa [evAt_swp _ _ _ _ hi hk, if_pos rfl] at this
    · by_cases h2 : k = j
      · subst h2
        have := h i (by rw [swp_length]; exact hi)
        rwa [evAt_swp _ _ _ _ hi hk, if_neg (by omega), if_pos rfl] at this
      · have := h j (by rw [swp_length]; exact hj)
        rwa [evAt_swp _ _ _ _ hi hk, if_neg h2, if_neg h1] at this
  · intro h j hj
    rw [swp_length] at hj
    rw [evAt_swp _ _ _ _ hi hk]
    split
    · exact h i hi
    · split
      · exact h k hk
      · exact h j hj
theorem kept_upL {P : Ev → Prop} {l : List Ev} {i : Nat} (hi : i < l.length) : Kept P (upL l i) ↔ Kept P l := by
  induction i using Nat.strongRecOn generalizing l with
  | _ i ih =>
    by_cases h : 0 < i ∧ (evAt l i).cmp (evAt l ((i - 1) / 2)) < 0
    · rw [upL_go h.1 h.2, ih _ (by omega) (by rw [swp_length]; omega), kept_swp hi (by omega)]
    · rw [upL_stop h]
theorem kept_downL {P : Ev → Prop} {l : List Ev} {n i : Nat} (hn : n ≤ l.length) (hi : i < n) : Kept P (downL l n i) ↔ Kept P l := by
  generalize hm : n - i = m
  induction m using Nat.strongRecOn generalizing l i with
  | _ m ih =>
    by_cases h : pickL l n i = i
    · rw [downL_stop h]
    · have hc := (pickL_cases l n i).resolve_left h
      rw [downL_go h, ih (n - pickL l n i) (by omega) (by rw [swp_length]; exact hn) hc.2 rfl, kept_swp (by omega) (by omega)]
theorem kept_snoc {P : Ev → Prop} {l : List Ev} {e : Ev} : Kept P (l ++ [e]) ↔ Kept P l ∧ P e := by
  constructor
  · intro h
    refine ⟨fun j hj => ?_, ?_⟩
    · have := h j (by simp; omega)
      rwa [evAt_left _ _ _ hj] at this
    · have := h l.length (by simp)
      rwa [evAt_last] at this
  · rintro ⟨h1, h2⟩ j hj
    simp at hj
    by_cases e1 : j = l.length
    · subst e1; rw [evAt_last]; exact h2
    · rw [evAt_left _ _ _ (by omega)]; exact h1 j (by omega)
def pushL (l : List Ev) (e : Ev) : List Ev := upL (l ++ [e]) l.length
theorem pushL_length (l : List Ev) (e : Ev) : (pushL l e).length = l.length + 1 := by simp [pushL, upL_length]
theorem kept_pushL {P : Ev → Prop} {l : List Ev} {e : Ev} : Kept P (pushL l e) ↔ Kept P l ∧ P e := by
  unfold pushL
  rw [kept_upL (by simp), kept_snoc]
def cutL (l : List Ev) (i : Nat) : List Ev := (l.set i (evAt l (l.length - 1))).take (l.length - 1)
theorem cutL_length (l : List Ev) (i : Nat) : (cutL l i).length = l.length - 1 := by simp [cutL]
def takeL (l : List Ev) (i : Nat) : List Ev := if i < l.length - 1 then upL (downL (cutL l i) (l.length - 1) i) i else cutL l i
theorem takeL_length (l : List Ev) (i : Nat) : (takeL l i).length = l.length - 1 := by
  unfold takeL
  split
  · rw [upL_length, downL_length, cutL_length]
  · rw [cutL_length]
theorem evAt_take (l : List Ev) (k i : Nat) (h : i < k) : evAt (l.take k) i = evAt l i := by simp [evAt, List.getElem?_take_of_lt h]
theorem evAt_drop (l : List Ev) (k i : Nat) : evAt (l.drop k) i = evAt l (k + i) := by simp [evAt]
theorem ext_ev {l m : List Ev} (h : l.length = m.length) (hh : ∀ j, j < l.length → evAt l j = evAt m j) : l = m := by
  apply List.ext_getElem h
  intro j h1 h2
  have := hh j h1
  simpa [evAt, h1, h2] using this
theorem swp_cut (l : List Ev) (i : Nat) (hi : i < l.length) : swp l i (l.length - 1) = cutL l i ++ [evAt l i] := by
  have hc := cutL_length l i
  refine ext_ev (by rw [swp_length, List.length_append, hc, List.length_singleton]; omega) (fun j hj => ?_)
  rw [swp_length] at hj
  rw [evAt_swp _ _ _ _ hi (by omega)]
  by_cases h1 : l.length - 1 = j
  · rw [if_pos h1]
    subst h1
    have := evAt_last (cutL l i) (evAt l i)
    rw [hc] at this
    exact this.symm
  · rw [if_neg h1, evAt_left _ _ _ (by rw [hc]; omega)]
    unfold cutL
    rw [evAt_take _ _ _ (by omega), evAt_set _ _ _ _ hi]
theorem take_left (l m : List Ev) (n : Nat) (h : n = l.length) : (l ++ m).take n = l := by subst h; simp
theorem pop_same (l : List Ev) (h : 0 < l.length) : (downL (swp l 0 (l.length - 1)) (l.length - 1) 0).take (l.length - 1) = takeL l 0 ∧ evAt (downL (swp l 0 (l.length - 1)) (l.length - 1) 0) (l.length - 1) = evAt l 0 := by
  rw [swp_cut _ _ h]
  have hc := cutL_length l 0
  unfold takeL
  by_cases h1 : 0 < l.length - 1
  · rw [if_pos h1]
    have hd := downL_append (cutL l 0) [evAt l 0] 0 (by omega)
    rw [hc] at hd
    rw [hd, take_left _ _ _ (by rw [downL_length, hc]), upL_stop (by omega)]
    refine ⟨rfl, ?_⟩
    have := evAt_last (downL (cutL l 0) (l.length - 1) 0) (evAt l 0)
    rw [downL_length, hc] at this
    exact this
  · rw [if_neg h1]
    have hd : downL (cutL l 0 ++ [evAt l 0]) (l.length - 1) 0 = cutL l 0 ++ [evAt l 0] := downL_stop (by unfold pickL; rw [if_neg (by omega), if_neg (by omega)])
    rw [hd, take_left _ _ _ hc.symm]
    refine ⟨rfl, ?_⟩
    have := evAt_last (cutL l 0) (evAt l 0)
    rw [hc] at this
    exact this
theorem pick_lib (l : List Ev) (n i : Nat) : pickL l n i =
    if 2 * i + 1 < n then
      (if 2 * i + 2 < n ∧ (evAt l (2 * i + 2)).cmp (evAt l (2 * i + 1)) < 0 then (if (evAt l (2 * i + 2)).cmp (evAt l i) < 0 then 2 * i + 2 else i)
       else (if (evAt l (2 * i + 1)).cmp (evAt l i) < 0 then 2 * i + 1 else i))
    else i := by
  unfold pickL
  by_cases h1 : 2 * i + 1 < n
  · by_cases h2 : 2 * i + 2 < n
    · by_cases a : (evAt l (2 * i + 1)).cmp (evAt l i) < 0
      · by_cases b : (evAt l (2 * i + 2)).cmp (evAt l (2 * i + 1)) < 0
        · have := cmp_trans b a
          simp [h1, h2, a, b, this]
        · simp [h1, h2, a, b]
      · by_cases b : (evAt l (2 * i + 2)).cmp (evAt l (2 * i + 1)) < 0
        · simp [h1, h2, a, b]
        · have := cmp_neg b a
          simp [h1, h2, a, b, this]
    · simp [h1, h2]
  · simp [h1, show ¬ 2 * i + 2 < n from by omega]
end Go.Proofs.YtbljfphdghfkfaaGreatDoor

/- What turns, and what stays as it was. -/
namespace Go.Proofs.YtbljfphdghfkfaaGreatDoor
open Go.RowKit
structure Turns (S : Nat → Prop) (w w' : World) : Prop where
 os : w'.os = w.os
 tape : w'.tape = w.tape
 output : w'.output = w.output
 size : w.heap.size ≤ w'.heap.size
 block : ∀ k, k < w.heap.size → ¬ S k → w'.heap[k]? = w.heap[k]?
theorem Turns.refl (S : Nat → Prop) (w : World) : Turns S w w := ⟨rfl, rfl, rfl, Nat.le_refl _, fun _ _ _ => rfl⟩
theorem Turns.trans {S : Nat → Prop} {a b c : World} (h : Turns S a b) (k : Turns S b c) : Turns S a c :=
 ⟨k.os.trans h.os, k.tape.trans h.tape, k.output.trans h.output, Nat.le_trans h.size k.size, fun i hi hS => (k.block i (Nat.lt_of_lt_of_le hi h.size) hS).trans (h.block i hi hS)⟩
theorem Turns.drew {S : Nat → Prop} {a w : World} (h : Turns S a w) : Turns S a w.drew := ⟨h.os, h.tape, h.output, h.size, h.block⟩
theorem Turns.of_below {S : Nat → Prop} {w w' : World} (h : Below w.heap.size w w') : Turns S w w' := ⟨h.os, h.tape, h.output, h.size, fun k hk _ => h.block k hk⟩
theorem Turns.to_below {S : Nat → Prop} {w w' : World} {B : Nat} (h : Turns S w w') (hS : ∀ k, S k → B ≤ k) (hB : B ≤ w.heap.size) : Below B w w' :=
 ⟨h.os, h.tape, h.output, h.size, fun k hk => h.block k (by omega) (fun e => by have := hS k e; omega)⟩
theorem Turns.mono {S S' : Nat → Prop} {w w' : World} (h : Turns S w w') (hS : ∀ k, S k → S' k) : Turns S' w w' := ⟨h.os, h.tape, h.output, h.size, fun k hk hn => h.block k hk (fun e => hn (hS k e))⟩
theorem Turns.alloc {S : Nat → Prop} {a w : World} (h : Turns S a w) (o : Obj) : Turns S a (w.alloc o) := h.trans (Turns.of_below ((Below.refl _ w).alloc (Nat.le_refl _) o))
theorem Turns.setCell {S : Nat → Prop} {a w : World} (h : Turns S a w) {p : Addr} (hp : S p.block) (u : Value) : Turns S a (w.setCell p u) :=
 h.trans ⟨rfl, rfl, rfl, by simp [World.setCell], fun k _ hk => Below.heap_setCell _ _ _ _ (fun e => hk (e ▸ hp))⟩
theorem Turns.cell {S : Nat → Prop} {w w' : World} (h : Turns S w w') {b o : Nat} (hb : b < w.heap.size) (hS : ¬ S b) : w'.cell? ⟨b, o, none⟩ = w.cell? ⟨b, o, none⟩ := World.cell?_of_block (w := w) (h.block b hb hS)
theorem Turns.frozen {S : Nat → Prop} {w w' : World} (h : Turns S w w') {b o : Nat} (hb : b < w.heap.size) (hS : ¬ S b) : w'.frozen? ⟨b, o, none⟩ = w.frozen? ⟨b, o, none⟩ := World.frozen?_of_block (w := w) (h.block b hb hS)
end Go.Proofs.YtbljfphdghfkfaaGreatDoor

/- Rows of numbers: eqIntS where both sides are the same, markIntS, heldIntS. -/
namespace Go.Proofs.YtbljfphdghfkfaaGreatDoor
open Go.RowKit
def intAt (l : List Int) (i : Nat) : Int := l.getD i 0
def intCells (l : List Int) : List Value := l.map (Value.int .i64)
def IntsAt (w : World) (b off : Nat) (l : List Int) : Prop := b < w.heap.size ∧ ∀ i, i < l.length → w.cell? ⟨b, off + i, none⟩ = some (.int .i64 (intAt l i))
def IsI (w : World) (x : Value) (l : List Int) : Prop := ∃ a cap, x = .slice a l.length cap ∧ l.length ≤ cap ∧ cap ≤ maxLen ∧ (l = [] ∨ ∃ b off, a = some ⟨b, off, none⟩ ∧ IntsAt w b off l)
theorem IntsAt.below {w w' : World} {B b off : Nat} {l : List Int} (h : IntsAt w b off l) (hb : Below B w w') (hB : b < B) : IntsAt w' b off l :=
 ⟨Nat.lt_of_lt_of_le h.1 hb.size, fun i hi => (hb.cell hB).trans (h.2 i hi)⟩
theorem IsI.below {w w' : World} {x : Value} {l : List Int} (h : IsI w x l) (hb : Below w.heap.size w w') : IsI w' x l := by
 obtain ⟨a, cap, rfl, h1, h2, h⟩ := h
 exact ⟨a, cap, rfl, h1, h2, h.imp id (fun ⟨b, off, e, h⟩ => ⟨b, off, e, h.below hb h.1⟩)⟩
theorem setCell_grown (w : World) (g o : Nat) (v : Value) : w.grownBy (w.setCell ⟨g, o, none⟩ v) (some g) := by
 refine ⟨?_, ?_, ?_, by simp, fun k _ hk => Below.heap_setCell _ _ _ _ (fun e => hk (by rw [e]))⟩
 all_goals (unfold World.setCell; rfl)
def OwnI (B : Nat) (w : World) (x : Value) (l : List Int) : Prop := ∃ a cap, x = .slice a l.length cap ∧ l.length ≤ cap ∧ cap ≤ maxLen ∧ (l = [] ∨ ∃ g, a = some ⟨g, 0, none⟩ ∧ B ≤ g ∧ (∀ j, j < l.length → w.frozen? ⟨g, j, none⟩ = false) ∧ IntsAt w g 0 l)
theorem OwnI.nil (B : Nat) (w : World) : OwnI B w (.slice none 0 0) [] := ⟨none, 0, rfl, Nat.le_refl _, Nat.zero_le _, .inl rfl⟩
theorem OwnI.isI {B : Nat} {w : World} {x : Value} {l : List Int} (h : OwnI B w x l) : IsI w x l := by
 obtain ⟨a, cap, rfl, h1, h2, h⟩ := h
 exact ⟨a, cap, rfl, h1, h2, h.imp id (fun ⟨g, e, _, _, hr⟩ => ⟨g, 0, e, hr⟩)⟩
theorem OwnI.mono {B B' : Nat} {w : World} {x : Value} {l : List Int} (h : OwnI B w x l) (hb : B' ≤ B) : OwnI B' w x l := by
 obtain ⟨a, cap, rfl, h1, h2, h⟩ := h
 exact ⟨a, cap, rfl, h1, h2, h.imp id (fun ⟨g, e, hg, hr⟩ => ⟨g, e, Nat.le_trans hb hg, hr⟩)⟩
theorem OwnI.of_row {B : Nat} {w : World} {x : Value} {l : List Int} (h : w.ownsRow B 3 1 x l.length (intCells l)) : OwnI B w x l := by
 obtain ⟨hl, ⟨rfl, h0⟩ | ⟨g, cap, cur, rfl, hg, hc, h1, h2, h3, h4⟩⟩ := h
 ·exact ⟨none, 0, by rw [h0], by omega, by unfold maxLen; omega, .inl (List.eq_nil_of_length_eq_zero h0)⟩
 ·refine ⟨_, cap, rfl, h1, h2, .inr ⟨g, rfl, hg, fun j hj => ?_, (Array.getElem?_eq_some_iff.1 hc).1, fun i hi => ?_⟩⟩
  ·have hj2 : j < cur.size := by omega
   simp [World.frozen?, hc]
  ·have e1 : w.cell? ⟨g, i, none⟩ = (intCells l)[i]? := by
    rw [← h4, List.getElem?_take_of_lt (by omega)]
    simp [World.cell?, hc]
   rw [Nat.zero_add, e1]
   simp [intCells, intAt, hi]
end Go.Proofs.YtbljfphdghfkfaaGreatDoor

/- Ops and models as plain values. -/
namespace Go.Proofs.YtbljfphdghfkfaaGreatDoor
open Go.RowKit
structure O where
 c : Int
 a : Int
 b : Int
 k : Int
def oAt (l : List O) (i : Nat) : O := l.getD i ⟨0, 0, 0, 0⟩
def hAt (l : List (List O)) (i : Nat) : List O := l.getD i []
structure Md where
 n : Int
 s : Int
 i : List Int
 h : List (List O)
 e : List Ev
 z : Int
def okO (n len c a b k : Int) : Bool :=
 decide ((c = 0 ∧ 0 ≤ a ∧ a ≤ 1 ∧ 0 ≤ b ∧ b ≤ 999 ∧ k = 0) ∨ ((c = 1 ∨ c = 5) ∧ 0 ≤ a ∧ a ≤ 1 ∧ b = 0 ∧ k = 0) ∨ (c = 6 ∧ 0 ≤ a ∧ a ≤ 1 ∧ 1 ≤ b ∧ b ≤ 999 ∧ k = 0) ∨
  (c = 2 ∧ 0 ≤ a ∧ a < n ∧ 1 ≤ b ∧ b ≤ 50 ∧ 0 ≤ k ∧ k < len) ∨ (c = 3 ∧ 0 ≤ a ∧ a ≤ 1 ∧ 0 ≤ b ∧ b ≤ 999 ∧ 1 ≤ k ∧ k ≤ 8) ∨ (c = 4 ∧ 0 ≤ a ∧ a ≤ 3 ∧ 0 ≤ b ∧ b ≤ 1 ∧ k = 0))
def O.ok (n len : Int) (o : O) : Bool := okO n len o.c o.a o.b o.k
def O.cs (e : O) : List Value := [.int .i64 e.c, .int .i64 e.a, .int .i64 e.b, .int .i64 e.k]
abbrev O.val (e : O) : Value := .agg #[.int .i64 e.c, .int .i64 e.a, .int .i64 e.b, .int .i64 e.k]
def cellsO : List O → List Value
 | [] => []
 | e :: l => e.cs ++ cellsO l
theorem cellsO_length : ∀ l : List O, (cellsO l).length = l.length * 4
 | [] => rfl
 | e :: l => by simp [cellsO, cellsO_length l, O.cs]; omega
theorem cellsO_append : ∀ l l' : List O, cellsO (l ++ l') = cellsO l ++ cellsO l'
 | [], _ => rfl
 | e :: l, l' => by simp [cellsO, cellsO_append l l']
theorem oAt_cons_succ (e : O) (l : List O) (i : Nat) : oAt (e :: l) (i + 1) = oAt l i := by simp [oAt]
theorem cellsO_get : ∀ (l : List O) (i r : Nat), i < l.length → r < 4 → (cellsO l)[i * 4 + r]? = (oAt l i).cs[r]?
 | [], _, _, h, _ => by simp at h
 | e :: l, 0, r, _, hr => by
  have : r < e.cs.length := by simpa [O.cs] using hr
  simp only [cellsO, Nat.zero_mul, Nat.zero_add]
  rw [List.getElem?_append_left this]
  simp [oAt]
 | e :: l, i + 1, r, h, hr => by
  have h1 := cellsO_get l i r (by simpa using h) hr
  have : e.cs.length ≤ (i + 1) * 4 + r := by simp [O.cs]; omega
  simp only [cellsO]
  rw [List.getElem?_append_right this, oAt_cons_succ, ← h1]
  congr 1
  simp [O.cs]; omega
theorem cellsO_one (l : List O) : ∀ u ∈ cellsO l, u.oneCell' = true := by
 induction l with
 | nil => intro u h; cases h
 | cons e l ih =>
  intro u h
  rcases List.mem_append.1 h with h | h
  ·simp [O.cs] at h
   rcases h with rfl | rfl | rfl | rfl <;> rfl
  ·exact ih u h
end Go.Proofs.YtbljfphdghfkfaaGreatDoor

/- Contracts of toEvent, within, l1num, Compare: plain values in, plain values out. -/
namespace Go.Proofs.YtbljfphdghfkfaaGreatDoor
open Go.RowKit
theorem ret_bool {a b : Bool} (h : a = b) : Ending.returned (.bool a) = .returned (.bool b) := by rw [h]
theorem ret_int {k : IntKind} {a b : Int} (h : a = b) : Ending.returned (.int k a) = .returned (.int k b) := by rw [h]
theorem ret_dec {p : Prop} [Decidable p] {b : Bool} (h : p ↔ b = true) : Ending.returned (.bool (decide p)) = .returned (.bool b) := by
 rw [show decide p = b from by cases b <;> simp_all]
set_option maxHeartbeats 400000 in
theorem within_any (x lo hi : Int) (w : World) :
  Calls Tryz.prog 31 #[.int .i64 x, .int .i64 lo, .int .i64 hi] w fun e w' =>
   e = .returned (.bool (decide (lo ≤ x) && decide (x ≤ hi))) ∧ w' = w := by
 go_enter Tryz.func31, Tryz.ntmps31
 go_wp2
 ·go_ret
  exact ⟨ret_dec (by simp_all), rfl⟩
 ·go_ret
  exact ⟨ret_bool (by simp; omega), rfl⟩
set_option maxHeartbeats 400000 in
theorem compare_any (a b : Int) (w : World) :
  Calls Tryz.prog 194 #[.int .i64 a, .int .i64 b] w fun e w' => e = .returned (.int .i64 (num a b)) ∧ w' = w := by
 go_enter Tryz.func194, Tryz.ntmps194
 go_wp2
 all_goals (go_ret; exact ⟨ret_int (by unfold num; split <;> (try split) <;> omega), rfl⟩)
end Go.Proofs.YtbljfphdghfkfaaGreatDoor

