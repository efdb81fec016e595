/- The program's eventsOk. -/
import Derived.Test.YtnccenbkpocjgaaGreatExactHearG15
namespace Go.Proofs.YtnccenbkpocjgaaGreat
open Go.RowKit Go.Shelf
attribute [local go_sem] Oper.semAt_some
theorem iOk_ev (e : Ev) (b : Bool) (h : e.ok = b) (w : World) : Calls Tryz.prog 62 #[e.val] w fun r w' => r = .returned (.bool b) ∧ Below w.heap.size w w' := by
 subst h; exact iOk_any _ _ _ _ _ _ _ w
theorem keepsOthers_of_below {W W' : World} (h : Below W.heap.size W W') : KeepsOthers W W' := ⟨h.size, fun k _ hk _ => (h.block k (Array.getElem?_eq_some_iff.1 hk).1).trans hk⟩
theorem EvAt.kept {W W' : World} {row : Option Nat} {b o : Nat} {t s q d k v g : Int} (h : EvAt W b o t s q d k v g) (hg : W.grownBy W' row) (hr : ∀ r, row = some r → ∃ x : Obj, W.heap[r]? = some x ∧ x.isCells = false) : EvAt W' b o t s q d k v g :=
 ⟨cell_kept h.f0 hg hr, cell_kept h.f1 hg hr, cell_kept h.f2 hg hr, cell_kept h.f3 hg hr, cell_kept h.f4 hg hr, cell_kept h.f5 hg hr, cell_kept h.f6 hg hr⟩
set_option maxRecDepth 100000 in
set_option maxHeartbeats 2000000 in
theorem eventsOk_any (a : Option Addr) (cap b : Nat) (l : List Ev) (w : World) (hl : l.length ≤ 1048576) (hI : l = [] ∨ ∃ off, a = some ⟨b, off, none⟩ ∧ EvsAt w b off l) (hb : b < w.heap.size) :
  Calls Tryz.prog 162 #[.slice a l.length cap] w fun e w' => Says e (∀ i, i < l.length → (evAt l i).ok = true) ∧ Below w.heap.size w w' := by
 refine (callsIn_wide (n := 5)).1 ?_
 refine callsIn_of_wp_marks Tryz.func162 rfl trivial ?_ rfl
 simp only [Tryz.ntmps162, List.size_toArray, List.length_cons, List.length_nil, Nat.reduceAdd, Nat.reduceSub, Array.replicate_succ, Array.replicate_zero, List.push_toArray, List.append_toArray, List.nil_append, List.cons_append]
 gi_wp2_with (refine ⟨trivial, ?_⟩; gi_at_call 40; refine (callsIn_wide.2 (each_any _ _ _ _)).mono ?_; rintro e w' ⟨rfl, rfl⟩)
 have cR := (Boxed.new w 4 (.bool false)).alloc (.cells #[.slice a l.length cap] 31)
 have cS := Boxed.new (w.alloc (.cells #[.bool false] 4)) 31 (.slice a l.length cap)
 rw [World.size_alloc] at cS
 have hB0 : Below w.heap.size w ((w.alloc (.cells #[.bool false] 4)).alloc (.cells #[.slice a l.length cap] 31)) := ((Below.refl _ w).alloc (Nat.le_refl _) _).alloc (by simp) _
 refine wpIn_rangeFunc_ownH rfl (by omega) (gf := 93) (lb := #[.pointer (some ⟨w.heap.size + 1, 0, none⟩)]) rfl trivial (enters_of Tryz.func93 (by kernel_rfl) rfl)
  (each_stops Fence.wide 4 trivial rfl (by omega) (w.heap.size + 1) b a cap l hl _ (by simp) cS.cell (hI.imp id (fun ⟨off, e, h⟩ => ⟨off, e, h.below hB0 hb⟩))) Same2.trans (Same2.putObj (by simp) (by simp; omega)) (Below.refl _ _) (fun _ => rfl)
  (fun pre W => ((∀ x ∈ pre, (evAt l x.val).ok = true) ∧ W.cell? ⟨w.heap.size, 0, none⟩ = some (.bool false) ∧ W.frozen? ⟨w.heap.size, 0, none⟩ = false) ∧ Below (w.heap.size + 2) ((w.alloc (.cells #[.bool false] 4)).alloc (.cells #[.slice a l.length cap] 31)) W)
  (fun c pre W => (c = .ret ∧ (∃ x : Fin l.length, (evAt l x.val).ok = false) ∧ W.cell? ⟨w.heap.size, 0, none⟩ = some (.bool false)) ∧ Below w.heap.size w W)
  (OwnFrom.and (Own.from (fun s A B row hs hg hr => ⟨hs.1, cell_kept hs.2.1 hg hr, (frozen_kept hs.2.1 hg hr).trans hs.2.2⟩) _) (ownFrom_below (by simp) (by simp)))
  (fun c => OwnFrom.and (Own.from (fun s A B row hs hg hr => ⟨hs.1, hs.2.1, cell_kept hs.2.2 hg hr⟩) _) (ownFrom_below (Nat.le_refl _) (by simp; omega)))
  ⟨⟨by simp, cR.cell, cR.frozen⟩, Below.refl _ _⟩
  (fun x a' W => ∃ Bx, w.heap.size + 2 ≤ Bx ∧ Bx < W.heap.size ∧ Ev.In W Bx 0 (evAt l x.val) ∧ a' = { tmps := #[.slice a l.length cap, undef, .pointer (some ⟨w.heap.size, 0, none⟩), undef, .pointer (some ⟨Bx, 0, none⟩), .slice a l.length cap, .func (.func 93) #[] #[.pointer (some ⟨w.heap.size + 1, 0, none⟩)], .int .i64 ((x.val : Nat) : Int), (evAt l x.val).val, undef, undef, undef], defers := [] })
  (fun x a' s A B row hs hg hr => by obtain ⟨Bx, h1, h2, h3, h4⟩ := hs; exact ⟨Bx, h1, Nat.lt_of_lt_of_le h2 hg.size, h3.kept hg (fun r e => (hr r e).2), h4⟩) ?assign ?body ?done ?stop
 case assign =>
  rintro lp pre x W K ⟨⟨hp, hc, hf⟩, hB⟩ hK
  gi_wp2
  have hz : w.heap.size + 1 < W.heap.size := by have := hB.size; simp at this; omega
  have hBW : Below W.heap.size W (W.alloc (.cells #[.int .i64 (evAt l x.val).t, .int .i64 (evAt l x.val).s, .int .i64 (evAt l x.val).q, .int .i64 (evAt l x.val).d, .int .i64 (evAt l x.val).k, .int .i64 (evAt l x.val).v, .int .i64 (evAt l x.val).g] 55)) := (Below.refl _ W).alloc (Nat.le_refl _) _
  exact hK _ _ ((KeepsOthers.alloc _ _).from _) (Same2.below hBW hz (by omega)) ⟨⟨hp, (hBW.cell (p := ⟨w.heap.size, 0, none⟩) (by simp; omega)).trans hc, (hBW.frozen (p := ⟨w.heap.size, 0, none⟩) (by simp; omega)).trans hf⟩, hB.trans (hBW.mono (by omega))⟩ ⟨W.heap.size, by omega, by simp, EvAt.new _ _ _ _ _ _ _ _ _, rfl⟩
 case body =>
  rintro lp pre x a' W hlp _ ⟨⟨hp, hc, hf⟩, hB⟩ ⟨Bx, h1, h2, h3, rfl⟩ hlt
  have hz : w.heap.size + 1 < W.heap.size := by have := hB.size; simp at this; omega
  obtain ⟨f0, f1, f2, f3, f4, f5, f6⟩ := h3.lits
  have HP : Hid (∀ x ∈ pre, (evAt l x.val).ok = true) := hp
  have HB : Hid (Below (w.heap.size + 2) ((w.alloc (.cells #[.bool false] 4)).alloc (.cells #[.slice a l.length cap] 31)) W) := hB
  have HB0 : Hid (Below w.heap.size w ((w.alloc (.cells #[.bool false] 4)).alloc (.cells #[.slice a l.length cap] 31))) := hB0
  clear hp hB h3 cR cS hI hB0
  cases hok : (evAt l x.val).ok
  ·have HOK : Hid ((evAt l x.val).ok = false) := hok
   clear hok
   gi_wp2_with (refine ⟨trivial, ?_⟩; gi_at_call 62; refine (CallsIn.inRound lp (callsIn_wide.2 (iOk_ev (evAt l x.val) false HOK.out _))).mono ?_; rintro e w2 ⟨rfl, hb2⟩; have hc2 := (hb2.cell (p := ⟨w.heap.size, 0, none⟩) (by simp; omega)).trans hc; have hf2 := (hb2.frozen (p := ⟨w.heap.size, 0, none⟩) (by simp; omega)).trans hf)
   exact ⟨((keepsOthers_of_below hb2).trans (KeepsOthers.setCell _ _ _)).from _, ⟨rfl, ⟨x, HOK.out⟩, World.cell?_setCell_same' _ _ _ (by rw [hc2]; rfl)⟩, ((HB0.out.trans (HB.out.mono (by omega))).trans (hb2.mono (by omega))).setCell (p := ⟨w.heap.size, 0, none⟩) (Nat.le_refl _) _⟩
  ·have HOK : Hid ((evAt l x.val).ok = true) := hok
   clear hok
   gi_wp2_with (refine ⟨trivial, ?_⟩; gi_at_call 62; refine (CallsIn.inRound lp (callsIn_wide.2 (iOk_ev (evAt l x.val) true HOK.out _))).mono ?_; rintro e w2 ⟨rfl, hb2⟩; have hc2 := (hb2.cell (p := ⟨w.heap.size, 0, none⟩) (by simp; omega)).trans hc; have hf2 := (hb2.frozen (p := ⟨w.heap.size, 0, none⟩) (by simp; omega)).trans hf)
   exact ⟨(keepsOthers_of_below hb2).from _, Same2.below hb2 hz (by omega), ⟨fun y hy => (List.mem_append.1 hy).elim (HP.out y) (fun e => by simp at e; subst e; exact HOK.out), hc2, hf2⟩, HB.out.trans (hb2.mono (by omega))⟩
 case done =>
  rintro D ys W hD rfl ⟨⟨hp, hc, hf⟩, hB⟩ hK
  have HP : Hid (∀ x ∈ List.finRange l.length, (evAt l x.val).ok = true) := hp
  clear hp
  gi_wp2
  have hK' := (KeepsOthers.setCell W ⟨w.heap.size, 0, none⟩ (.bool true)).same D _ hK rfl
  refine ⟨by simp, .inl ⟨_, _, rfl, run_takeDeferred hK', ?_⟩⟩
  have hc5 := cell_kept (World.cell?_setCell_same' W ⟨w.heap.size, 0, none⟩ (.bool true) (by rw [hc]; rfl)) (grownBy_putObj' _ D (.deferred none)) (fun r e => by cases e; exact ⟨_, hK', rfl⟩)
  refine ⟨.bool true, ?_, Says.yes (fun i hi => HP.out ⟨i, hi⟩ (List.mem_finRange _)), ((hB0.trans (hB.mono (by omega))).setCell (p := ⟨w.heap.size, 0, none⟩) (Nat.le_refl _) _).trans (belowK_b (w := w) (Nat.le_refl _) _ D _ _ (by simp at hD; omega) hK' rfl rfl)⟩
  simp [results, Tryz.f162, go_sem, hc5]
 case stop =>
  rintro D c pre W hD _ ⟨⟨rfl, ⟨x, hx⟩, hc⟩, hB⟩ hK
  have HX : Hid ((evAt l x.val).ok = false) := hx
  clear hx
  gi_wp2
  refine ⟨by simp, .inl ⟨_, _, rfl, run_takeDeferred hK, ?_⟩⟩
  have hc5 := cell_kept hc (grownBy_putObj' _ D (.deferred none)) (fun r e => by cases e; exact ⟨_, hK, rfl⟩)
  refine ⟨.bool false, ?_, Says.no (fun h => by have := h x.val x.isLt; rw [HX.out] at this; cases this), hB.trans (belowK_b (w := w) (Nat.le_refl _) W D _ _ (by simp at hD; omega) hK rfl rfl)⟩
  simp [results, Tryz.f162, go_sem, hc5]
end Go.Proofs.YtnccenbkpocjgaaGreat
