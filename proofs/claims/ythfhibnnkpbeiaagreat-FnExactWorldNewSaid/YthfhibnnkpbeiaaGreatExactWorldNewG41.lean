/- SrR, NIq, NPl -/
import Derived.Test.YthfhibnnkpbeiaaGreatExactWorldNewG40
import Derived.Test.YthfhibnnkpbeiaaGreatExactWorldNewG25
import Derived.Lib.SliceRun
import Derived.Deep.RegionHeld3
import Derived.Test.YthfhibnnkpbeiaaGreatExactWorldNewG01
import Derived.Test.YthfhibnnkpbeiaaGreatExactWorldNewLInsD
import Derived.Test.YthfhibnnkpbeiaaGreatExactWorldNewG06
import Derived.Test.YthfhibnnkpbeiaaGreatExactWorldNewLTPsE
import Derived.Test.YthfhibnnkpbeiaaGreatExactWorldNewG09
import Derived.Test.YthfhibnnkpbeiaaGreatExactWorldNewG07
import Derived.Laws.OwnMore
import Derived.WalkSmall
import Derived.BigRegion
import Derived.Deep.Cut
import Derived.Test.YthfhibnnkpbeiaaGreatExactWorldNewG13
/- What SortFunc leaves, as a row of one's own. -/
namespace Go.Proofs.YthfhibnnkpbeiaaGreat
open Go.RowKit Go.Shelf Go.Lib Go.Sort
theorem cellsL_nth : ∀ (l : List Ev) (t : Nat), t < l.length * 7 → (cellsL l)[t]? = ((evAt l (t / 7)).cs)[t % 7]?
 | [], t, h => by simp at h
 | e :: l, t, h => by
  have e1 : cellsL (e :: l) = e.cs ++ cellsL l := rfl
  have hl : e.cs.length = 7 := rfl
  rw [e1]
  by_cases ht : t < 7
  ·rw [List.getElem?_append_left (by omega), show t / 7 = 0 by omega, show t % 7 = t by omega]
   rfl
  ·rw [List.getElem?_append_right (by omega), hl, cellsL_nth l (t - 7) (by simp at h; omega), show t / 7 = (t - 7) / 7 + 1 by omega, show t % 7 = (t - 7) % 7 by omega]
   rfl
def listE (d : Array EvF) : List Ev := d.toList.map (·.1)
theorem listE_length (d : Array EvF) : (listE d).length = d.size := by simp [listE]
theorem listE_at (d : Array EvF) {i : Nat} (h : i < d.size) : evAt (listE d) i = (d[i]!).1 := by
 simp [listE, evAt, h]
theorem flat_cells (d : Array EvF) : (flatK encE 7 d).toList = cellsL (listE d) := by
 refine List.ext_getElem? fun t => ?_
 by_cases ht : t < d.size * 7
 ·rw [cellsL_nth _ _ (by rw [listE_length]; exact ht), listE_at d (by omega)]
  have hs : t < (flatK encE 7 d).size := by simpa using ht
  have h7 : t % 7 < (encE d[t / 7]!).length := by show t % 7 < 7; omega
  have hg := get_flatK encE 7 d t ht
  rw [getElem!_pos (flatK encE 7 d) t hs, getElem!_pos (encE d[t / 7]!) (t % 7) h7] at hg
  rw [Array.getElem?_toList, Array.getElem?_eq_getElem hs, hg]
  exact (List.getElem?_eq_getElem h7).symm
 ·rw [List.getElem?_eq_none (by simp; omega), List.getElem?_eq_none (by rw [cellsL_length, listE_length]; omega)]
theorem listE_mk (l : List Ev) (h : ∀ e ∈ l, e.ok = true) : ∃ d : Array EvF, listE d = l := by
 refine ⟨(l.pmap (fun e he => (⟨e, he⟩ : EvF)) h).toArray, ?_⟩
 unfold listE
 rw [List.map_pmap]
 simp
theorem holds_row {B g cap : Nat} {d : Array EvF} {w : World} (h : w.ownsRow B 99 7 (.slice (some ⟨g, 0, none⟩) d.size cap) d.size (cellsL (listE d))) : HoldsK encE 7 w g 0 d := by
 obtain ⟨cur, hg, hBg, hnc, hcm, hcs, htk⟩ := owns_block h
 intro j hj
 have hj2 : j < d.size * 7 := by simpa using hj
 have h1 : cur[j]? = some ((flatK encE 7 d)[j]!) := by
  have h2 : (cur.toList.take (d.size * 7))[j]? = (flatK encE 7 d).toList[j]? := by rw [htk, flat_cells]
  rw [List.getElem?_take_of_lt hj2, Array.getElem?_toList, Array.getElem?_toList, Array.getElem?_eq_getElem hj] at h2
  rw [h2, getElem!_pos (flatK encE 7 d) j hj]
 rw [Nat.zero_add]
 refine ⟨?_, ?_⟩
 ·unfold World.cell?
  rw [hg]
  simpa using h1
 ·unfold World.frozen?
  rw [hg]
  simp
theorem row_sorted {B g cap n : Nat} {d d' : Array EvF} {w : World} {os : Array Obj} (h : w.ownsRow B 99 7 (.slice (some ⟨g, 0, none⟩) d.size cap) d.size (cellsL (listE d))) (hs : d'.size = d.size) :
  (sortWorldK encE 7 w g 0 n d' os).ownsRow B 99 7 (.slice (some ⟨g, 0, none⟩) d'.size cap) d'.size (cellsL (listE d')) ∧ Turns (fun k => k = g) w (sortWorldK encE 7 w g 0 n d' os) := by
 obtain ⟨cur, hg, hBg, hnc, hcm, hcs, htk⟩ := owns_block h
 have hlt : g < w.heap.size := (Array.getElem?_eq_some_iff.1 hg).1
 have hh : (sortWorldK encE 7 w g 0 n d' os).heap = (w.heap.modify g (onCells (putCells id 0 (flatK encE 7 d')))) ++ os := rfl
 have hz : (w.heap.modify g (onCells (putCells id 0 (flatK encE 7 d')))).size = w.heap.size := by simp
 have hfs : (flatK encE 7 d').size = d'.size * 7 := by simp
 have hmul : d'.size * 7 ≤ cap * 7 := Nat.mul_le_mul_right _ (by omega)
 refine ⟨⟨by rw [cellsL_length, listE_length], .inr ⟨g, cap, putCells id 0 (flatK encE 7 d') cur, rfl, hBg, ?_, by omega, hcm, ?_, ?_⟩⟩, ⟨rfl, rfl, rfl, ?_, fun k hk hne => ?_⟩⟩
 ·rw [hh, Array.getElem?_append_left (by omega), Array.getElem?_modify, if_pos rfl, hg]
  rfl
 ·unfold putCells
  simpa using hcs
 ·rw [← flat_cells]
  refine List.ext_getElem? fun t => ?_
  by_cases ht : t < d'.size * 7
  ·have hc : t < cur.size := by omega
   rw [List.getElem?_take_of_lt ht, Array.getElem?_toList, Array.getElem?_toList, Array.getElem?_eq_getElem (by omega : t < (flatK encE 7 d').size)]
   unfold putCells
   rw [Array.getElem?_mapIdx, Array.getElem?_eq_getElem hc, Option.map_some, if_pos ⟨Nat.zero_le _, by omega⟩, Nat.sub_zero, getElem!_pos (flatK encE 7 d') t (by omega)]
   rfl
  ·rw [List.getElem?_eq_none (by rw [List.length_take]; omega), List.getElem?_eq_none (by simp; omega)]
 ·rw [hh]
  simp
 ·rw [hh, Array.getElem?_append_left (by omega), Array.getElem?_modify, if_neg (fun e => hne e.symm)]
def SortR (B g cap : Nat) (l : List Ev) (w w' : World) (e : Ending) : Prop := e = .returned (.tuple #[]) ∧ ∃ l', l'.Perm l ∧ (∀ i j, i < j → j < l'.length → ¬ (evAt l' j).cmp (evAt l' i) < 0) ∧ w'.ownsRow B 99 7 (.slice (some ⟨g, 0, none⟩) l'.length cap) l'.length (cellsL l') ∧ Turns (fun k => k = g) w w'
theorem sort_row (B g cap : Nat) (l : List Ev) (w : World) (hok : ∀ e ∈ l, e.ok = true) (h12 : l.length ≤ 12) (h : w.ownsRow B 99 7 (.slice (some ⟨g, 0, none⟩) l.length cap) l.length (cellsL l)) :
  Calls Tryz.prog 81 #[.slice (some ⟨g, 0, none⟩) l.length cap, .func (.func 82) #[] #[]] w fun e w' => SortR B g cap l w w' e := by
 obtain ⟨d, rfl⟩ := listE_mk l hok
 rw [listE_length] at h h12 ⊢
 have hlt : g < w.heap.size := by
  obtain ⟨cur, hg, _⟩ := owns_block h
  exact (Array.getElem?_eq_some_iff.1 hg).1
 refine (sortF_any g 0 cap d w (holds_row h) hlt h12).mono ?_
 rintro e w' ⟨rfl, d', n, os, hp, hs, rfl⟩
 obtain ⟨q1, q2⟩ := row_sorted (n := n) (os := os) h hp.1
 refine ⟨rfl, listE d', ?_, fun i j hij hj => ?_, by rw [listE_length]; exact q1, q2⟩
 ·have h9 := hp.2.2
  rw [show d'.extract 0 d.size = d' by rw [← hp.1]; simp, show d.extract 0 d.size = d by simp] at h9
  exact h9.map _
 ·rw [listE_length] at hj
  have h9 := hs i j (Nat.zero_le _) hij (by rw [← hp.1]; exact hj)
  rw [listE_at d' hj, listE_at d' (by omega)]
  exact of_decide_eq_false h9
end Go.Proofs.YthfhibnnkpbeiaaGreat

/- slices.SortFunc over nothing. -/
namespace Go.Proofs.YthfhibnnkpbeiaaGreat
open Go.RowKit Go.Shelf
set_option maxRecDepth 100000 in
set_option maxHeartbeats 4000000 in
theorem insS_nil (f : Value) (w : World) : Calls Tryz.prog 114 #[.slice none 0 0, .int .i64 0, .int .i64 0, f] w fun e w' => e = .returned (.tuple #[]) ∧ w' = w := by
 go_enter Tryz.func114, Tryz.ntmps114
 go_wp2
 go_loopw [8] (fun i wr => i = .int .i64 1 ∧ wr = w) (fun _ _ => 0)
 case atStart => exact ⟨rfl, rfl⟩
 case round =>
  obtain ⟨rfl, rfl⟩ := hrel
  go_wp2
  go_end0
  exact ⟨rfl, rfl⟩
set_option maxRecDepth 100000 in
set_option maxHeartbeats 4000000 in
theorem pdq_nil (l : Int) (f : Value) (w : World) : Calls Tryz.prog 104 #[.slice none 0 0, .int .i64 0, .int .i64 0, .int .i64 l, f] w fun e w' => e = .returned (.tuple #[]) ∧ w' = w := by
 go_enter Tryz.func104, Tryz.ntmps104
 go_wp2
 go_loopw [1, 2] (fun a b wr => a = .int .i64 0 ∧ b = .int .i64 0 ∧ wr = w) (fun _ _ _ => 0)
 case atStart => exact ⟨rfl, rfl, rfl⟩
 case round =>
  obtain ⟨rfl, rfl, rfl⟩ := hrel
  go_wp2_with (go_at_call 114; refine (insS_nil _ _).mono ?_; rintro e w1 ⟨rfl, rfl⟩)
  refine bodyPost_ret (results_none rfl _ _ _) rfl ?_
  exact ⟨rfl, rfl⟩
set_option maxRecDepth 100000 in
set_option maxHeartbeats 4000000 in
theorem sort_nil (f : Value) (w : World) : Calls Tryz.prog 81 #[.slice none 0 0, f] w fun e w' => e = .returned (.tuple #[]) ∧ w' = w := by
 go_enter Tryz.func81, Tryz.ntmps81
 go_wp2_with (first | (go_at_call 105; refine (bitsE 0 _ (by omega)).mono ?_; rintro e w1 ⟨⟨lb, rfl⟩, rfl⟩) | (go_at_call 104; refine (pdq_nil _ _ _).mono ?_; rintro e w2 ⟨rfl, rfl⟩))
 go_end0
 exact ⟨rfl, rfl⟩
def SortedR (B : Nat) (vt : Value) (L : List Ev) (w w' : World) (e : Ending) : Prop := e = .returned (.tuple #[]) ∧ ∃ l', l'.Perm L ∧ (∀ i j, i < j → j < l'.length → ¬ (evAt l' j).cmp (evAt l' i) < 0) ∧ w'.ownsRow B 99 7 vt l'.length (cellsL l') ∧ Turns (fun k => vt.ownBlock = some k) w w'
theorem sort_own (B : Nat) (vt : Value) (L : List Ev) (w : World) (hok : ∀ e ∈ L, e.ok = true) (h12 : L.length ≤ 12) (h : w.ownsRow B 99 7 vt L.length (cellsL L)) :
  Calls Tryz.prog 81 #[vt, .func (.func 82) #[] #[]] w fun e w' => SortedR B vt L w w' e := by
 have h0 := h
 obtain ⟨_, ⟨rfl, hn⟩ | ⟨g, cap, cur, rfl, _⟩⟩ := h
 ·obtain rfl := List.eq_nil_of_length_eq_zero hn
  refine (sort_nil _ _).mono ?_
  rintro e w' ⟨rfl, hw⟩
  rw [hw]
  exact ⟨rfl, [], List.Perm.refl _, fun i j _ hj => by simp at hj, h0, Turns.refl _ _⟩
 ·refine (sort_row B g cap L w hok h12 h0).mono ?_
  rintro e w' ⟨rfl, l', hp, hs, ho, ht⟩
  have hl := hp.length_eq
  refine ⟨rfl, l', hp, hs, ?_, ht.mono (fun k e1 => by simp [Value.ownBlock, e1])⟩
  rw [hl] at ho ⊢
  exact ho
end Go.Proofs.YthfhibnnkpbeiaaGreat

/- A part's first events: put in one by one, or sorted: one list. -/
namespace Go.Proofs.YthfhibnnkpbeiaaGreat
open Go.RowKit
def leE (a b : Ev) : Prop := ¬ b.cmp a < 0
theorem leE_trans {a b c : Ev} (h1 : leE a b) (h2 : leE b c) : leE a c := by
 unfold leE at *
 rw [cmp_lt_iff] at *
 omega
theorem lt_leE {a b : Ev} (h : a.cmp b < 0) : leE a b := by
 unfold leE
 rw [cmp_lt_iff] at *
 omega
theorem insL_perm (l : List Ev) (e : Ev) : (insL l e).Perm (e :: l) := by
 unfold insL
 refine List.perm_middle.trans ?_
 rw [List.take_append_drop]
theorem foldN_perm (lp : Nat) : ∀ (es l : List Ev), (es.foldl (stN lp) l).Perm (es.filter (fun e => decide (e.d = (lp : Int))) ++ l)
 | [], l => by simp
 | e :: es, l => by
  rw [List.foldl_cons]
  refine (foldN_perm lp es _).trans ?_
  by_cases h : e.d = (lp : Int)
  ·rw [List.filter_cons_of_pos (by simpa using h)]
   unfold stN
   rw [if_pos h]
   refine ((insL_perm l e).append_left _).trans ?_
   exact List.perm_middle
  ·rw [List.filter_cons_of_neg (by simpa using h)]
   unfold stN
   rw [if_neg h]
theorem newL_perm (lp : Nat) (es : List Ev) : (newL lp es).Perm (es.filter (fun e => decide (e.d = (lp : Int)))) := by
 have := foldN_perm lp es []
 simpa [newL] using this
theorem insL_sorted {l : List Ev} (h : l.Pairwise leE) (e : Ev) : (insL l e).Pairwise leE := by
 obtain ⟨h1, h2, h3⟩ := insP_at l e
 unfold insL
 generalize insP l e = p at h1 h2 h3
 have hl : l.take p ++ l.drop p = l := List.take_append_drop p l
 rw [← hl, List.pairwise_append] at h
 have ht : ∀ a ∈ l.take p, a.cmp e < 0 := fun a ha => by
  obtain ⟨i, hi, rfl⟩ := List.getElem_of_mem ha
  rw [List.length_take] at hi
  have := h2 i (by omega)
  simpa [evAt, show i < l.length by omega] using this
 have hd : ∀ b ∈ l.drop p, leE e b := fun b hb => by
  have hp : p < l.length := by
   rcases Nat.lt_or_ge p l.length with hlt | hge
   ·exact hlt
   ·rw [List.drop_eq_nil_of_le hge] at hb; simp at hb
  have e1 : l.drop p = evAt l p :: l.drop (p + 1) := by
   rw [List.drop_eq_getElem_cons hp]
   simp [evAt, hp]
  have h4 : leE e (evAt l p) := h3 hp
  rw [e1] at hb
  rcases List.mem_cons.1 hb with rfl | hb
  ·exact h4
  ·have h5 := h.2.1
   rw [e1, List.pairwise_cons] at h5
   exact leE_trans h4 (h5.1 b hb)
 rw [List.pairwise_append, List.pairwise_cons]
 refine ⟨h.1, ⟨hd, h.2.1⟩, fun a ha b hb => ?_⟩
 rcases List.mem_cons.1 hb with rfl | hb
 ·exact lt_leE (ht a ha)
 ·exact h.2.2 a ha b hb
theorem foldN_sorted (lp : Nat) : ∀ (es l : List Ev), l.Pairwise leE → (es.foldl (stN lp) l).Pairwise leE
 | [], l, h => h
 | e :: es, l, h => by
  rw [List.foldl_cons]
  refine foldN_sorted lp es _ ?_
  unfold stN
  split
  ·exact insL_sorted h e
  ·exact h
theorem newL_is {lp : Nat} {es l : List Ev} (hu : ∀ a b, a ∈ es → b ∈ es → a.q = b.q → a = b) (hp : l.Perm (es.filter (fun e => decide (e.d = (lp : Int))))) (hs : l.Pairwise leE) : l = newL lp es := by
 have hn := newL_perm lp es
 refine List.Perm.eq_of_pairwise (le := leE) (fun a b ha hb h1 h2 => ?_) hs (foldN_sorted lp es [] List.Pairwise.nil) (hp.trans hn.symm)
 refine hu a b (List.mem_filter.1 (hp.subset ha)).1 (List.mem_filter.1 (hn.subset hb)).1 ?_
 unfold leE at h1 h2
 rw [cmp_lt_iff] at h1 h2
 omega
end Go.Proofs.YthfhibnnkpbeiaaGreat

