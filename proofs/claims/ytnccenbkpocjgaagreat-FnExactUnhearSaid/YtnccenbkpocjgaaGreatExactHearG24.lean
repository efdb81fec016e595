/- Places, PlacesM, Differ -/
import Derived.Test.YtnccenbkpocjgaaGreatExactHearLEvOk
import Derived.Test.YtnccenbkpocjgaaGreatExactHearG23
import Derived.Test.YtnccenbkpocjgaaGreatExactHearG18
import Derived.Maps.OwnSet
/- The program's map from tags to places. -/
namespace Go.Proofs.YtnccenbkpocjgaaGreat
open Go.RowKit Go.Shelf Go.Maps Go.WideShapes
attribute [local go_sem] Oper.semAt_some
def placesD {H : Type} (l : List Ev) (pre : List (Fin l.length)) : DataW H := pre.foldl (fun D x => D.put (keyL (evAt l x.val).g) (.lit (.int .i64 ((x.val : Nat) : Int)))) (.map [])
theorem placesD_snoc {H : Type} (l : List Ev) (pre : List (Fin l.length)) (x : Fin l.length) : placesD (H := H) l (pre ++ [x]) = (placesD l pre).put (keyL (evAt l x.val).g) (.lit (.int .i64 ((x.val : Nat) : Int))) := by simp [placesD]
theorem ownsMap_below {H : Type} {P : Program} {k : TypeId} {R : Value → Option (DataW H × List MemPlace)} {b n : Nat} {D : DataW H} {B : Nat} {W W' : World} (h : W.ownsMap P k R b n D) (hb : Below B W W') (hB : b < B) : W'.ownsMap P k R b n D := by
 obtain ⟨es, ck, h1, h2⟩ := h
 exact ⟨es, ck, (hb.block b hB).trans h1, h2⟩
set_option maxRecDepth 100000 in
set_option maxHeartbeats 4000000 in
theorem places_any {H : Type} (a : Option Addr) (cap b : Nat) (l : List Ev) (w : World) (hl : l.length ≤ 1048576) (hI : l = [] ∨ ∃ off, a = some ⟨b, off, none⟩ ∧ EvsAt w b off l) (hb : b < w.heap.size) (hwf : ∀ i, i < l.length → wfI (evAt l i).g) :
  Calls Tryz.prog 199 #[.slice a l.length cap] w fun e W' => e = .returned (.map (some w.heap.size)) ∧ W'.ownsMap Tryz.prog 55 (plainElem (H := H) Tryz.prog 3) w.heap.size l.length (placesD l (List.finRange l.length)) ∧ Below w.heap.size w W' := by
 have hmm := run_makeMap_hint
 refine (callsIn_wide (n := 5)).1 ?_
 refine callsIn_of_wp_marks Tryz.func199 rfl trivial ?_ rfl
 simp only [Tryz.ntmps199, List.size_toArray, List.length_cons, List.length_nil, Nat.reduceAdd, Nat.reduceSub, Array.replicate_succ, Array.replicate_zero, List.push_toArray, List.append_toArray, List.nil_append, List.cons_append]
 gi_wp2_with (refine ⟨trivial, ?_⟩; gi_at_call 40; refine (callsIn_wide.2 (each_any _ _ _ _)).mono ?_; rintro e w' ⟨rfl, rfl⟩)
 clear hmm
 have hm0 := World.ownsMap_made w Tryz.prog 55 (plainElem (H := H) Tryz.prog 3)
 have cM := (Boxed.new (w.alloc (.map #[] 0)) 227 (.map (some w.heap.size))).alloc (.cells #[.slice a l.length cap] 31)
 have cS := Boxed.new ((w.alloc (.map #[] 0)).alloc (.cells #[.map (some w.heap.size)] 227)) 31 (.slice a l.length cap)
 simp only [World.size_alloc] at cM cS
 have hB0 : Below w.heap.size w (((w.alloc (.map #[] 0)).alloc (.cells #[.map (some w.heap.size)] 227)).alloc (.cells #[.slice a l.length cap] 31)) := (((Below.refl _ w).alloc (Nat.le_refl _) _).alloc (by simp) _).alloc (by simp; omega) _
 refine wpIn_rangeFunc_ownH rfl (by omega) (gf := 93) (lb := #[.pointer (some ⟨w.heap.size + 1 + 1, 0, none⟩)]) rfl trivial (enters_of Tryz.func93 (by kernel_rfl) rfl)
  (each_stops Fence.wide 4 trivial rfl (by omega) (w.heap.size + 1 + 1) b a cap l hl _ (by simp) cS.cell (hI.imp id (fun ⟨off, e, h⟩ => ⟨off, e, h.below hB0 hb⟩))) Same2.trans (Same2.putObj (by simp) (by simp; omega)) (Below.refl _ _) (fun _ => rfl)
  (fun pre W => (W.cell? ⟨w.heap.size + 1, 0, none⟩ = some (.map (some w.heap.size)) ∧ W.ownsMap Tryz.prog 55 (plainElem (H := H) Tryz.prog 3) w.heap.size pre.length (placesD l pre) ∧ w.heap.size + 3 ≤ W.heap.size) ∧ Below w.heap.size w W)
  (fun _ _ _ => False)
  (OwnFrom.and (fun s A B row hs hg hr => ⟨cell_kept hs.1 hg (fun r e => (hr r e).2), hs.2.1.kept hg (fun e => by have := (hr _ e.symm).1; simp at this; omega), Nat.le_trans hs.2.2 hg.size⟩) (ownFrom_below (Nat.le_refl _) (by simp; omega)))
  (fun _ _ _ _ _ hs _ _ => hs)
  ⟨⟨cM.cell, (hm0.alloc _).alloc _, by simp⟩, hB0⟩
  (fun x a' W => ∃ Bx, w.heap.size + 3 ≤ Bx ∧ Bx < W.heap.size ∧ Ev.In W Bx 0 (evAt l x.val) ∧ a' = { tmps := #[.slice a l.length cap, undef, .map none, .pointer (some ⟨w.heap.size + 1, 0, none⟩), .int .i64 ((x.val : Nat) : Int), .pointer (some ⟨Bx, 0, none⟩), .slice a l.length cap, .int .i64 (l.length : Int), .map (some w.heap.size), .slice a l.length cap, .func (.func 93) #[] #[.pointer (some ⟨w.heap.size + 1 + 1, 0, none⟩)], .int .i64 ((x.val : Nat) : Int), (evAt l x.val).val, undef, undef, undef, undef, undef, undef], defers := [] })
  (fun x a' s A B row hs hg hr => by obtain ⟨Bx, h1, h2, h3, h4⟩ := hs; exact ⟨Bx, h1, Nat.lt_of_lt_of_le h2 hg.size, h3.kept hg (fun r e => (hr r e).2), h4⟩) ?assign ?body ?done ?stop
 case assign =>
  rintro lp pre x W K ⟨⟨hc, hown, hz⟩, hB⟩ hK
  have HO := hown
  clear hown
  gi_wp2
  have hBW : Below W.heap.size W (W.alloc (.cells #[.int .i64 (evAt l x.val).t, .int .i64 (evAt l x.val).s, .int .i64 (evAt l x.val).q, .int .i64 (evAt l x.val).d, .int .i64 (evAt l x.val).k, .int .i64 (evAt l x.val).v, .int .i64 (evAt l x.val).g] 55)) := (Below.refl _ W).alloc (Nat.le_refl _) _
  exact hK _ _ ((KeepsOthers.alloc _ _).from _) (Same2.below hBW (by omega) (by omega)) ⟨⟨(hBW.cell (p := ⟨w.heap.size + 1, 0, none⟩) (by simp; omega)).trans hc, ownsMap_below HO hBW (by omega), by simp; omega⟩, hB.trans (hBW.mono (by omega))⟩ ⟨W.heap.size, hz, by simp, EvAt.new _ _ _ _ _ _ _ _ _, rfl⟩
 case body =>
  rintro lp pre x a' W hlp _ ⟨⟨hc, hown, hz⟩, hB⟩ ⟨Bx, h1, h2, h3, rfl⟩ hlt
  obtain ⟨f0, f1, f2, f3, f4, f5, f6⟩ := h3.lits
  clear f0 f1 f2 f3 f4 f5 h3 cM cS hI hm0
  have HO : Hid (W.ownsMap Tryz.prog 55 (plainElem (H := H) Tryz.prog 3) w.heap.size pre.length (placesD l pre)) := hown
  have HB : Hid (Below w.heap.size w W) := hB
  have HW : Hid (wfI (evAt l x.val).g) := hwf _ x.isLt
  have HX : Hid ((Lit.int .i64 ((x.val : Nat) : Int)).wf = true) := WalkArith.wf_i64 (by have := x.isLt; omega)
  clear hown hB hB0 hwf
  have hmo : Tryz.prog.follows .mixedOrders = true := by kernel_rfl
  gi_wp2
  gi_region_with_o (refine ⟨trivial, ?_⟩; gi_at_call 214; refine (CallsIn.inRound lp (callsIn_wide.2 (tagKey_any _ _))).mono ?_; rintro e w2 ⟨rfl, hb2⟩; have hc2 : w2.cell? ⟨w.heap.size + 1, 0, none⟩ = some (.map (some w.heap.size)) := (hb2.cell (p := ⟨w.heap.size + 1, 0, none⟩) (by simp; omega)).trans hc; obtain ⟨w3, hrun, hown3, hg3⟩ := (ownsMap_below (W := W.drew) HO.out hb2 (by simp; omega)).update keyed25 Tryz.underlying227 (by unfold maxLen; omega) (keyOf_tag _ HW.out) (plainElem_int Tryz.underlying3 HX.out))
  all_goals
   gi_wp2
   have hb3 : Below w.heap.size w w2 := HB.out.drew.trans (hb2.mono (by simp; omega))
   have hz2 : W.heap.size ≤ w2.heap.size := by simpa using hb2.size
   refine ⟨KeepsFrom.trans ((keepsOthers_of_below (W := W) (W' := w2) ((Below.refl _ W).drew.trans hb2)).from _) (KeepsFrom.of_grownBy hg3 (fun j e => by cases e; simp; omega)), ?_, ⟨?_, by rw [placesD_snoc, List.length_append]; exact hown3, Nat.le_trans (by omega) hg3.size⟩, hb3.grown hg3 (by omega) (fun k e => by cases e; exact Nat.le_refl _)⟩
   ·exact Same2.trans (Same2.below (n := W.heap.size) ((Below.refl _ W).drew.trans hb2) (by omega) (by omega)) ⟨hg3.block (w.heap.size + 1 + 1) (by omega) (by simp; omega), hg3.block b (by omega) (by simp; omega)⟩
   ·exact (World.cell?_of_block (w := w2) (hg3.block (w.heap.size + 1) (by omega) (by simp))).trans hc2
 case done =>
  rintro D ys W hD rfl ⟨⟨hc, hown, hz⟩, hB⟩ hK
  have HO : Hid (W.ownsMap Tryz.prog 55 (plainElem (H := H) Tryz.prog 3) w.heap.size (List.finRange l.length).length (placesD l (List.finRange l.length))) := hown
  clear hown
  gi_wp2
  refine ⟨by simp, .inl ⟨_, _, rfl, run_takeDeferred hK, ?_⟩⟩
  exact ⟨_, results_tmp rfl _ _ _, rfl, by have := HO.out.kept (grownBy_putObj' _ D (.deferred none)) (fun e => by cases e; simp at hD; omega); simpa using this, hB.trans (belowK_b (w := w) (Nat.le_refl _) W D _ _ (by simp at hD; omega) hK rfl rfl)⟩
 case stop =>
  rintro D c pre W _ _ h _
  exact h.elim
end Go.Proofs.YtnccenbkpocjgaaGreat

/- What the map from tags to places holds. -/
namespace Go.Proofs.YtnccenbkpocjgaaGreat
open Go.RowKit Go.Maps Go.WideShapes
theorem sameKey_keyL {g g' : Int} (h : wfI g) (h' : wfI g') : (keyL g).sameKey (keyL g') = decide (g = g') := by
 by_cases e : g = g'
 ·subst e; simp [keyL, Lit.sameKey]
 ·have : keyL g ≠ keyL g' := fun h1 => e (keyL_inj h h' h1)
  unfold keyL at this ⊢
  simp only [Lit.sameKey, e, decide_false, beq_eq_false_iff_ne]
  intro h1
  exact this (by rw [h1])
def ents {H : Type} : DataW H → List (Lit × DataW H)
 | .map es => es
 | _ => []
abbrev litI (i : Nat) : DataW Unit := .lit (.int .i64 ((i : Nat) : Int))
def placesE (l : List Ev) (k : Nat) : List (Lit × DataW Unit) := ents (placesD l ((List.finRange l.length).take k))
theorem placesD_isMap (l : List Ev) : ∀ k, k ≤ l.length → placesD (H := Unit) l ((List.finRange l.length).take k) = .map (placesE l k)
 | 0, _ => rfl
 | k + 1, h => by
  have ih := placesD_isMap l k (by omega)
  unfold placesE
  rw [fin_take_succ _ _ (by omega), placesD_snoc, ih]
  rfl
theorem placesE_succ (l : List Ev) (k : Nat) (h : k < l.length) : placesE l (k + 1) = DataW.insert (keyL (evAt l k).g, litI k) ((placesE l k).filter fun p => !p.1.sameKey (keyL (evAt l k).g)) := by
 have ih := placesD_isMap l k (by omega)
 conv => lhs; unfold placesE
 rw [fin_take_succ _ _ h, placesD_snoc, ih]
 rfl
structure PlacesAt (l : List Ev) (k : Nat) : Prop where
 le : (placesE l k).length ≤ k
 ent : ∀ p ∈ placesE l k, ∃ i, i < k ∧ p = (keyL (evAt l i).g, litI i) ∧ ∀ j, i < j → j < k → (evAt l j).g ≠ (evAt l i).g
 has : ∀ i, i < k → ∃ p ∈ placesE l k, p.1 = keyL (evAt l i).g
 iff : (placesE l k).length = k ↔ ∀ i, i < k → ∀ j, j < i → (evAt l j).g ≠ (evAt l i).g
theorem placesAt (l : List Ev) (hw : ∀ i, i < l.length → wfI (evAt l i).g) : ∀ k, k ≤ l.length → PlacesAt l k
 | 0, _ => ⟨Nat.le_refl _, fun p hp => (by cases hp), fun i hi => (by omega), ⟨fun _ i hi => (by omega), fun _ => rfl⟩⟩
 | k + 1, h => by
  have ih := placesAt l hw k (by omega)
  have hk := hw k (by omega)
  have hs := placesE_succ l k (by omega)
  have hlen : (placesE l (k + 1)).length = ((placesE l k).filter fun p => !p.1.sameKey (keyL (evAt l k).g)).length + 1 := by rw [hs, length_insert]
  have hfl : ((placesE l k).filter fun p => !p.1.sameKey (keyL (evAt l k).g)).length ≤ (placesE l k).length := List.length_filter_le _ _
  refine ⟨by have := ih.le; omega, ?_, ?_, ?_⟩
  ·intro p hp
   rw [hs] at hp
   rcases ChangeMaps.mem_insert_iff.1 hp with rfl | hp
   ·exact ⟨k, by omega, rfl, fun j h1 h2 => by omega⟩
   ·obtain ⟨hp, hn⟩ := List.mem_filter.1 hp
    obtain ⟨i, hi, rfl, hl⟩ := ih.ent p hp
    refine ⟨i, by omega, rfl, fun j h1 h2 => ?_⟩
    by_cases e : j = k
    ·subst e
     simp only [sameKey_keyL (hw i (by omega)) hk, Bool.not_eq_true', decide_eq_false_iff_not] at hn
     exact fun e => hn e.symm
    ·exact hl j h1 (by omega)
  ·intro i hi
   rw [hs]
   by_cases e : (evAt l i).g = (evAt l k).g
   ·exact ⟨_, ChangeMaps.mem_insert_iff.2 (.inl rfl), by rw [e]⟩
   ·have hik : i < k := by
     rcases Nat.lt_or_ge i k with h | h
     ·exact h
     ·exact absurd (by rw [show i = k from by omega]) e
    obtain ⟨p, hp, he⟩ := ih.has i hik
    refine ⟨p, ChangeMaps.mem_insert_iff.2 (.inr (List.mem_filter.2 ⟨hp, ?_⟩)), he⟩
    rw [he, sameKey_keyL (hw i (by omega)) hk]
    simpa using e
  ·rw [hlen]
   constructor
   ·intro heq
    have hall : (placesE l k).length = k := by have := ih.le; omega
    have hfe : ((placesE l k).filter fun p => !p.1.sameKey (keyL (evAt l k).g)).length = (placesE l k).length := by omega
    have hf := List.length_filter_eq_length_iff.1 hfe
    intro i hi j hj
    by_cases e : i = k
    ·subst e
     obtain ⟨p, hp, he⟩ := ih.has j hj
     have := hf p hp
     rw [he, sameKey_keyL (hw j (by omega)) hk] at this
     simpa using this
    ·exact (ih.iff.1 hall) i (by omega) j hj
   ·intro hd
    have hall : (placesE l k).length = k := ih.iff.2 (fun i hi j hj => hd i (by omega) j hj)
    have hfe : ((placesE l k).filter fun p => !p.1.sameKey (keyL (evAt l k).g)).length = (placesE l k).length := by
     refine List.length_filter_eq_length_iff.2 (fun p hp => ?_)
     obtain ⟨i, hi, rfl, _⟩ := ih.ent p hp
     rw [sameKey_keyL (hw i (by omega)) hk]
     simpa using hd k (by omega) i hi
    omega
end Go.Proofs.YtnccenbkpocjgaaGreat

/- The program's tagsDiffer. -/
namespace Go.Proofs.YtnccenbkpocjgaaGreat
open Go.RowKit Go.Maps Go.WideShapes
theorem finRange_all (n : Nat) : (List.finRange n).take n = List.finRange n := List.take_of_length_le (by simp)
set_option maxHeartbeats 1000000 in
theorem tagsDiffer_any (a : Option Addr) (cap b : Nat) (l : List Ev) (w : World) (hl : l.length ≤ 1048576) (hI : l = [] ∨ ∃ off, a = some ⟨b, off, none⟩ ∧ EvsAt w b off l) (hb : b < w.heap.size) (hwf : ∀ i, i < l.length → wfI (evAt l i).g) :
  Calls Tryz.prog 165 #[.slice a l.length cap] w fun e w' => Says e (∀ i, i < l.length → ∀ j, j < i → (evAt l j).g ≠ (evAt l i).g) ∧ Below w.heap.size w w' := by
 have HP : Hid (PlacesAt l l.length) := placesAt l hwf l.length (Nat.le_refl _)
 have HC := places_any (H := Unit) a cap b l w hl hI hb hwf
 have HC' : Hid (Calls Tryz.prog 199 #[.slice a l.length cap] w fun e W' => e = .returned (.map (some w.heap.size)) ∧ W'.ownsMap Tryz.prog 55 (plainElem (H := Unit) Tryz.prog 3) w.heap.size l.length (placesD l (List.finRange l.length)) ∧ Below w.heap.size w W') := HC
 clear HC hI hwf
 go_enter Tryz.func165, Tryz.ntmps165
 go_wp2_with fail
 refine HC'.out.mono ?_
 rintro e w1 ⟨rfl, hown, hb1⟩
 have hD := placesD_isMap l l.length (Nat.le_refl _)
 rw [finRange_all] at hD
 have hrun := hown.len Tryz.underlying227 3
 rw [hD] at hrun
 have hm : (Maps.size (.map (placesE l l.length) : DataW Unit) : Int) = ((placesE l l.length).length : Int) := rfl
 rw [hm] at hrun
 generalize hn : (placesE l l.length).length = n at hrun
 have HN : Hid ((placesE l l.length).length = n) := hn
 clear hown hD hn hm
 go_wp2
 go_ret
 refine ⟨?_, hb1⟩
 have hiff := HP.out.iff
 rw [HN.out] at hiff
 refine ⟨_, rfl, ?_⟩
 rw [← hiff]
 simp
 omega
theorem okB_tag {t s q d k v g : Int} (h : okB t s q d k v g = true) : wfI g := by
 simp only [okB, decide_eq_true_eq] at h
 exact WalkArith.wf_i64 (by omega)
theorem IsEvs.parts {w : World} {x : Value} {l : List Ev} (h : IsEvs w x l) (hw : 0 < w.heap.size) : ∃ a cap b, x = .slice a l.length cap ∧ b < w.heap.size ∧ (l = [] ∨ ∃ off, a = some ⟨b, off, none⟩ ∧ EvsAt w b off l) := by
 obtain ⟨a, cap, rfl, _, _, h⟩ := h
 rcases h with h | ⟨b, off, rfl, h⟩
 ·exact ⟨a, cap, 0, rfl, hw, .inl h⟩
 ·exact ⟨_, cap, b, rfl, h.1, .inr ⟨off, rfl, h⟩⟩
theorem parts_below {w w' : World} {a : Option Addr} {b : Nat} {l : List Ev} (h : l = [] ∨ ∃ off, a = some ⟨b, off, none⟩ ∧ EvsAt w b off l) (hb : b < w.heap.size) (hB : Below w.heap.size w w') : l = [] ∨ ∃ off, a = some ⟨b, off, none⟩ ∧ EvsAt w' b off l :=
 h.imp id (fun ⟨off, e, h⟩ => ⟨off, e, h.below hB hb⟩)
end Go.Proofs.YtnccenbkpocjgaaGreat

