/- ParI, HeapI, GSrc -/
import Derived.Test.YteecpandpkicmaaSortsG05
import Derived.Test.YteecpandpkicmaaSortsLLessI
import Derived.Test.YteecpandpkicmaaSortsLQuietR
import Derived.Test.YteecpandpkicmaaSortsG09
import Derived.Test.YteecpandpkicmaaSortsG26
import Derived.Test.YteecpandpkicmaaSortsLOwnS
/- The program's parentsAhead. -/
namespace Go.Proofs.Yteecpandpkicmaa
open Go.RowKit Go.Shelf
attribute [local go_sem] Oper.semAt_some
theorem wide_fn (f : FuncId) : Fence.wide.fn f = True := eq_true trivial

set_option maxRecDepth 100000 in
set_option maxHeartbeats 4000000 in
theorem parents_any (a : Option Addr) (cap b : Nat) (l : List Ev) (w : World) (hl : l.length ≤ 1048576) (hI : l = [] ∨ ∃ off, a = some ⟨b, off, none⟩ ∧ EvsAt w b off l) (hb : b < w.heap.size) (hoks : ∀ i, i < l.length → (evAt l i).ok = true) :
    Calls Try.prog 43 #[.slice a l.length cap] w fun e w' => Says e (∀ i, i < l.length → 0 < i → (evAt l ((i - 1) / 2)).cmp (evAt l i) < 0) ∧ Below w.heap.size w w' := by
  refine (callsIn_wide (n := 5)).1 ?_
  refine callsIn_of_wp_marks Try.func43 rfl trivial ?_ rfl
  simp only [Try.ntmps43, List.size_toArray, List.length_cons, List.length_nil, Nat.reduceAdd, Nat.reduceSub, Array.replicate_succ, Array.replicate_zero, List.push_toArray, List.append_toArray, List.nil_append, List.cons_append]
  gi_wp2_with (refine ⟨trivial, ?_⟩; gi_at_call 54; refine (callsIn_wide.2 (each_any _ _ _ _)).mono ?_; rintro e w' ⟨rfl, rfl⟩)
  have cH := ((Boxed.new w 23 (.slice a l.length cap)).alloc (.cells #[.bool false] 4)).alloc (.cells #[.slice a l.length cap] 23)
  have cR := (Boxed.new (w.alloc (.cells #[.slice a l.length cap] 23)) 4 (.bool false)).alloc (.cells #[.slice a l.length cap] 23)
  have cS := Boxed.new ((w.alloc (.cells #[.slice a l.length cap] 23)).alloc (.cells #[.bool false] 4)) 23 (.slice a l.length cap)
  simp only [World.size_alloc] at cH cR cS
  have hB0 : Below w.heap.size w (((w.alloc (.cells #[.slice a l.length cap] 23)).alloc (.cells #[.bool false] 4)).alloc (.cells #[.slice a l.length cap] 23)) := (((Below.refl _ w).alloc (Nat.le_refl _) _).alloc (by simp) _).alloc (by simp; omega) _
  refine wpIn_rangeFunc_ownH rfl (by omega) (gf := 65) (lb := #[.pointer (some ⟨w.heap.size + 1 + 1, 0, none⟩)]) rfl trivial (enters_of Try.func65 (by kernel_rfl) rfl)
    (each_stops Fence.wide 4 trivial rfl (by omega) (w.heap.size + 1 + 1) b a cap l hl _ (by simp) cS.cell (hI.imp id (fun ⟨off, e, h⟩ => ⟨off, e, h.below hB0 hb⟩))) Same2.trans (Same2.putObj (by simp) (by simp; omega)) (Below.refl _ _) (fun _ => rfl)
    (fun pre W => ((∀ x ∈ pre, 0 < x.val → (evAt l ((x.val - 1) / 2)).cmp (evAt l x.val) < 0) ∧ W.cell? ⟨w.heap.size + 1, 0, none⟩ = some (.bool false) ∧ W.frozen? ⟨w.heap.size + 1, 0, none⟩ = false) ∧ Below (w.heap.size + 3) (((w.alloc (.cells #[.slice a l.length cap] 23)).alloc (.cells #[.bool false] 4)).alloc (.cells #[.slice a l.length cap] 23)) W)
    (fun c pre W => (c = .ret ∧ (∃ x : Fin l.length, 0 < x.val ∧ ¬ (evAt l ((x.val - 1) / 2)).cmp (evAt l x.val) < 0) ∧ W.cell? ⟨w.heap.size + 1, 0, none⟩ = some (.bool false)) ∧ Below w.heap.size w W)
    (OwnFrom.and (Own.from (fun s A B row hs hg hr => ⟨hs.1, cell_kept hs.2.1 hg hr, (frozen_kept hs.2.1 hg hr).trans hs.2.2⟩) _) (ownFrom_below (by simp) (by simp)))
    (fun c => OwnFrom.and (Own.from (fun s A B row hs hg hr => ⟨hs.1, hs.2.1, cell_kept hs.2.2 hg hr⟩) _) (ownFrom_below (Nat.le_refl _) (by simp; omega)))
    ⟨⟨by simp, cR.cell, cR.frozen⟩, Below.refl _ _⟩
    (fun x a' W => ∃ Bx, w.heap.size + 3 ≤ Bx ∧ Bx < W.heap.size ∧ Ev.In W Bx 0 (evAt l x.val) ∧ a' = { tmps := #[.slice a l.length cap, .pointer (some ⟨w.heap.size, 0, none⟩), .pointer (some ⟨w.heap.size + 1, 0, none⟩), .int .i64 ((x.val : Nat) : Int), .pointer (some ⟨Bx, 0, none⟩), .slice a l.length cap, .func (.func 65) #[] #[.pointer (some ⟨w.heap.size + 1 + 1, 0, none⟩)], .int .i64 ((x.val : Nat) : Int), (evAt l x.val).val, undef, undef, undef, undef, undef, undef, undef, undef, undef, undef, undef, undef, undef], defers := [] })
    (fun x a' s A B row hs hg hr => by obtain ⟨Bx, h1, h2, h3, h4⟩ := hs; exact ⟨Bx, h1, Nat.lt_of_lt_of_le h2 hg.size, h3.kept hg (fun r e => (hr r e).2), h4⟩) ?assign ?body ?done ?stop
  case assign =>
    rintro lp pre x W K ⟨⟨hp, hc, hf⟩, hB⟩ hK
    gi_wp2
    have hz : w.heap.size + 2 < W.heap.size := by have := hB.size; simp at this; omega
    have hBW : Below W.heap.size W (W.alloc (.cells #[.int .i64 (evAt l x.val).t, .int .i64 (evAt l x.val).s, .int .i64 (evAt l x.val).q, .int .i64 (evAt l x.val).d, .int .i64 (evAt l x.val).k, .int .i64 (evAt l x.val).v, .int .i64 (evAt l x.val).g] 25)) := (Below.refl _ W).alloc (Nat.le_refl _) _
    exact hK _ _ ((KeepsOthers.alloc _ _).from _) (Same2.below hBW hz (by omega)) ⟨⟨hp, (hBW.cell (p := ⟨w.heap.size + 1, 0, none⟩) (by simp; omega)).trans hc, (hBW.frozen (p := ⟨w.heap.size + 1, 0, none⟩) (by simp; omega)).trans hf⟩, hB.trans (hBW.mono (by omega))⟩ ⟨W.heap.size, by omega, by simp, EvAt.new _ _ _ _ _ _ _ _ _, rfl⟩
  case body =>
    rintro lp pre x a' W hlp _ ⟨⟨hp, hc, hf⟩, hB⟩ ⟨Bx, h1, h2, h3, rfl⟩ hlt
    have hz : w.heap.size + 2 < W.heap.size := by have := hB.size; simp at this; omega
    obtain ⟨f0, f1, f2, f3, f4, f5, f6⟩ := h3.lits
    have HP : Hid (∀ x ∈ pre, 0 < x.val → (evAt l ((x.val - 1) / 2)).cmp (evAt l x.val) < 0) := hp
    have HB : Hid (Below (w.heap.size + 3) (((w.alloc (.cells #[.slice a l.length cap] 23)).alloc (.cells #[.bool false] 4)).alloc (.cells #[.slice a l.length cap] 23)) W) := hB
    have HB0 : Hid (Below w.heap.size w (((w.alloc (.cells #[.slice a l.length cap] 23)).alloc (.cells #[.bool false] 4)).alloc (.cells #[.slice a l.length cap] 23))) := hB0
    have hh := (hB.cell (p := ⟨w.heap.size, 0, none⟩) (by simp)).trans cH.cell
    obtain ⟨kx, hkx⟩ : ∃ kx, x.val = kx := ⟨_, rfl⟩
    have hkl : kx < l.length := by rw [← hkx]; exact x.isLt
    obtain ⟨off, rfl, hev⟩ : ∃ off, a = some ⟨b, off, none⟩ ∧ EvsAt w b off l := hI.resolve_left (fun e => by subst e; exact absurd hkl (Nat.not_lt_zero _))
    have HEV : Hid (EvsAt W b off l) := hev.below (HB0.out.trans (HB.out.mono (by omega))) hb
    have hwf : ∀ f, Fence.wide.fn f = True := wide_fn
    have hmo : Try.prog.follows .mixedOrders = true := by kernel_rfl
    clear hp hB h3 cR cS cH hI hB0 hev
    rw [hkx] at f0 f1 f2 f3 f4 f5 f6
    have f0 : ∀ p : Beyond W, p.w.cell? ⟨Bx, 0, none⟩ = _ := fun p => p.cell h2 f0
    have f1 : ∀ p : Beyond W, p.w.cell? ⟨Bx, 1, none⟩ = _ := fun p => p.cell h2 f1
    have f2 : ∀ p : Beyond W, p.w.cell? ⟨Bx, 2, none⟩ = _ := fun p => p.cell h2 f2
    have f3 : ∀ p : Beyond W, p.w.cell? ⟨Bx, 3, none⟩ = _ := fun p => p.cell h2 f3
    have f4 : ∀ p : Beyond W, p.w.cell? ⟨Bx, 4, none⟩ = _ := fun p => p.cell h2 f4
    have f5 : ∀ p : Beyond W, p.w.cell? ⟨Bx, 5, none⟩ = _ := fun p => p.cell h2 f5
    have f6 : ∀ p : Beyond W, p.w.cell? ⟨Bx, 6, none⟩ = _ := fun p => p.cell h2 f6
    have hh : ∀ p : Beyond W, p.w.cell? ⟨w.heap.size, 0, none⟩ = _ := fun p => p.cell (by omega) hh
    have hne : Nonempty (Beyond W) := ⟨⟨W, Below.refl _ _⟩⟩
    simp only [hkx]
    by_cases hk0 : kx = 0
    · have hd : decide (0 < kx) = false := by simp; omega
      have HK0 : Hid (kx = 0) := hk0
      clear hk0
      gi_wp2
      refine region_round hmo (by kernel_rfl) (by simp) ?_
      repeat (gi_big_quiet_step (fail))
      refine wpQuietIn_nil ?_
      rintro w2 ⟨⟨_, hb2⟩, rfl⟩
      have hc2 := (hb2.cell (p := ⟨w.heap.size + 1, 0, none⟩) (by simp; omega)).trans hc
      have hf2 := (hb2.frozen (p := ⟨w.heap.size + 1, 0, none⟩) (by simp; omega)).trans hf
      gi_wp2
      exact ⟨(keepsOthers_of_below hb2).from _, Same2.below hb2 hz (by omega), ⟨fun y hy => (List.mem_append.1 hy).elim (HP.out y) (fun e => by simp at e; subst e; intro h; have := HK0.out; omega), hc2, hf2⟩, HB.out.trans (hb2.mono (by omega))⟩
    · have hd : decide (0 < kx) = true := by simp; omega
      have hkp : (1 : Int) ≤ (kx : Int) := by omega
      obtain ⟨p, hpp⟩ : ∃ p, (kx - 1) / 2 = p := ⟨_, rfl⟩
      have HPP : Hid ((kx - 1) / 2 = p) := hpp
      have hpk : p < kx := by omega
      have ek1 : ((kx : Int) - 1) / 2 = (p : Int) := by omega
      have ek2 : ((kx : Int) - 1).tdiv 2 = (p : Int) := by rw [Int.tdiv_eq_ediv_of_nonneg (by omega)]; exact ek1
      have hp1 : (p : Int) < (l.length : Int) := by omega
      have hp2 : ¬ ((p : Int) < 0) := by omega
      have hp3 : ¬ ((l.length : Int) ≤ (p : Int)) := by omega
      have ek3 : IntKind.i64.wrap ((kx : Int) - 1) = (kx : Int) - 1 := by rw [IntKind.wrap_i64]; omega
      have ek4 : IntKind.i64.wrap (p : Int) = (p : Int) := by rw [IntKind.wrap_i64]; omega
      have hp4 : p < l.length := by omega
      have hkx0 : 0 < kx := by omega
      clear hpp hk0
      obtain ⟨g0, g1, g2, g3, g4, g5, g6⟩ := (HEV.out.2 p (by omega)).beyond HEV.out.1
      obtain ⟨z, hz'⟩ : ∃ z, (evAt l p).cmp (evAt l kx) = z := ⟨_, rfl⟩
      have HZ : Hid ((evAt l p).cmp (evAt l kx) = z) := hz'
      have HCC : Hid (∀ w, Calls Try.prog 12 #[.agg #[.int .i64 (evAt l p).t, .int .i64 (evAt l p).s, .int .i64 (evAt l p).q, .int .i64 (evAt l p).d, .int .i64 (evAt l p).k, .int .i64 (evAt l p).v, .int .i64 (evAt l p).g], .agg #[.int .i64 (evAt l kx).t, .int .i64 (evAt l kx).s, .int .i64 (evAt l kx).q, .int .i64 (evAt l kx).d, .int .i64 (evAt l kx).k, .int .i64 (evAt l kx).v, .int .i64 (evAt l kx).g]] w fun r w' => r = .returned (.int .i64 z) ∧ Below w.heap.size w w') := iCmp_ok _ _ (hoks p (by omega)) (hoks kx hkl) z hz'
      have HRG : Hid (z = -1 ∨ 0 ≤ z) := by
        unfold Hid; rw [← hz']; exact cmpI_range _ _ _ _ _ _ _ _
      clear hz' hoks
      by_cases hz1 : z = -1
      · have hdz : (z != -1) = false := by simp [hz1]
        have HZ1 : Hid (z = -1) := hz1
        clear hz1
        gi_wp2
        refine region_round hmo (by kernel_rfl) (by simp) ?_
        repeat (gi_big_quiet_step (first | (gi_at_call 12; exact Beyond.inRound lp (callsIn_wide.2 (HCC.out _)))))
        refine wpQuietIn_nil ?_
        rintro w2 ⟨⟨_, hb3⟩, rfl⟩
        have hc2 := (hb3.cell (p := ⟨w.heap.size + 1, 0, none⟩) (by simp; omega)).trans hc
        have hf2 := (hb3.frozen (p := ⟨w.heap.size + 1, 0, none⟩) (by simp; omega)).trans hf
        clear f0 f1 f2 f3 f4 f5 f6 g0 g1 g2 g3 g4 g5 g6 hh
        gi_wp2
        exact ⟨(keepsOthers_of_below hb3).from _, Same2.below hb3 hz (by omega), ⟨fun y hy => (List.mem_append.1 hy).elim (HP.out y) (fun e => by simp at e; subst e; intro _; rw [hkx, HPP.out, HZ.out, HZ1.out]; decide), hc2, hf2⟩, HB.out.trans (hb3.mono (by omega))⟩
      · have hdz : (z != -1) = true := by simpa using hz1
        have HZ1 : Hid (¬ z < 0) := by unfold Hid; have := HRG.out; omega
        clear hz1
        gi_wp2
        refine region_round hmo (by kernel_rfl) (by simp) ?_
        repeat (gi_big_quiet_step (first | (gi_at_call 12; exact Beyond.inRound lp (callsIn_wide.2 (HCC.out _)))))
        refine wpQuietIn_nil ?_
        rintro w2 ⟨⟨_, hb3⟩, rfl⟩
        have hc2 := (hb3.cell (p := ⟨w.heap.size + 1, 0, none⟩) (by simp; omega)).trans hc
        have hf2 := (hb3.frozen (p := ⟨w.heap.size + 1, 0, none⟩) (by simp; omega)).trans hf
        clear f0 f1 f2 f3 f4 f5 f6 g0 g1 g2 g3 g4 g5 g6 hh
        gi_wp2
        exact ⟨((keepsOthers_of_below hb3).trans (KeepsOthers.setCell _ _ _)).from _, ⟨rfl, ⟨x, by rw [hkx]; exact hkx0, by rw [hkx, HPP.out, HZ.out]; exact HZ1.out⟩, World.cell?_setCell_same' _ _ _ (by rw [hc2]; rfl)⟩, ((HB0.out.trans (HB.out.mono (by omega))).trans (hb3.mono (by omega))).setCell (p := ⟨w.heap.size + 1, 0, none⟩) (by simp) _⟩
  case done =>
    rintro D ys W hD rfl ⟨⟨hp, hc, hf⟩, hB⟩ hK
    have HP : Hid (∀ x ∈ List.finRange l.length, 0 < x.val → (evAt l ((x.val - 1) / 2)).cmp (evAt l x.val) < 0) := hp
    clear hp
    gi_wp2
    have hK' := (KeepsOthers.setCell W ⟨w.heap.size + 1, 0, none⟩ (.bool true)).same D _ hK rfl
    refine ⟨by simp, .inl ⟨_, _, rfl, run_takeDeferred hK', ?_⟩⟩
    have hc5 := cell_kept (World.cell?_setCell_same' W ⟨w.heap.size + 1, 0, none⟩ (.bool true) (by rw [hc]; rfl)) (grownBy_putObj' _ D (.deferred none)) (fun r e => by cases e; exact ⟨_, hK', rfl⟩)
    refine ⟨.bool true, ?_, Says.yes (fun i hi => HP.out ⟨i, hi⟩ (List.mem_finRange _)), ((hB0.trans (hB.mono (by omega))).setCell (p := ⟨w.heap.size + 1, 0, none⟩) (by simp) _).trans (belowK_b (w := w) (Nat.le_refl _) _ D _ _ (by simp at hD; omega) hK' rfl rfl)⟩
    simp [results, Try.f43, go_sem, hc5]
  case stop =>
    rintro D c pre W hD _ ⟨⟨rfl, ⟨x, hx0, hx⟩, hc⟩, hB⟩ hK
    have HX : Hid (0 < x.val ∧ ¬ (evAt l ((x.val - 1) / 2)).cmp (evAt l x.val) < 0) := ⟨hx0, hx⟩
    clear hx hx0
    gi_wp2
    refine ⟨by simp, .inl ⟨_, _, rfl, run_takeDeferred hK, ?_⟩⟩
    have hc5 := cell_kept hc (grownBy_putObj' _ D (.deferred none)) (fun r e => by cases e; exact ⟨_, hK, rfl⟩)
    refine ⟨.bool false, ?_, Says.no (fun h => absurd (h x.val x.isLt HX.out.1) (by have := HX.out.2; omega)), hB.trans (belowK_b (w := w) (Nat.le_refl _) W D _ _ (by simp at hD; omega) hK rfl rfl)⟩
    simp [results, Try.f43, go_sem, hc5]
end Go.Proofs.Yteecpandpkicmaa

/- The program's HeapOk. -/
namespace Go.Proofs.Yteecpandpkicmaa
open Go.RowKit
theorem goodH_iff (l : List Ev) : GoodH l ↔ l.length ≤ 2000 ∧ (∀ i, i < l.length → (evAt l i).ok = true) ∧ (∀ i, i < l.length → ∀ j, j < i → (evAt l j).g ≠ (evAt l i).g) ∧ ∀ i, i < l.length → 0 < i → (evAt l ((i - 1) / 2)).cmp (evAt l i) < 0 :=
  ⟨fun ⟨h, k⟩ => ⟨h, fun i hi => (k i hi).1, fun i hi => (k i hi).2.2, fun i hi => (k i hi).2.1⟩, fun ⟨h, k1, k2, k3⟩ => ⟨h, fun i hi => ⟨k1 i hi, k3 i hi, k2 i hi⟩⟩⟩
set_option maxHeartbeats 1000000 in
theorem iHeap_parts (a : Option Addr) (cap b : Nat) (l : List Ev) (w : World) (hl : l.length ≤ 1048576) (hI : l = [] ∨ ∃ off, a = some ⟨b, off, none⟩ ∧ EvsAt w b off l) (hb : b < w.heap.size) :
    Calls Try.prog 17 #[.slice a l.length cap] w fun e w' => Says e (GoodH l) ∧ Below w.heap.size w w' := by
  rw [goodH_iff]
  have HI : Hid (l = [] ∨ ∃ off, a = some ⟨b, off, none⟩ ∧ EvsAt w b off l) := hI
  clear hI
  by_cases h0 : l.length ≤ 2000
  · have hd : decide (l.length ≤ 2000) = true := by simpa using h0
    have hd' : (l.length : Int) ≤ 2000 := by omega
    go_enter Try.func17, Try.ntmps17
    go_wp2_with fail
    refine (eventsOk_any a cap b l _ hl HI.out hb).mono ?_
    rintro e w1 ⟨⟨b1, rfl, hs1⟩, hb1⟩
    have HS1 : Hid (b1 = true ↔ ∀ i, i < l.length → (evAt l i).ok = true) := hs1
    clear hs1
    cases b1
    · go_wp2_with fail
      go_ret
      exact ⟨Says.no (fun h => by have := HS1.out.2 h.2.1; cases this), hb1⟩
    · have HOK : Hid (∀ i, i < l.length → (evAt l i).ok = true) := HS1.out.1 rfl
      clear HS1
      have HI1 : Hid (l = [] ∨ ∃ off, a = some ⟨b, off, none⟩ ∧ EvsAt w1 b off l) := parts_below HI.out hb hb1
      have hz1 : b < w1.heap.size := Nat.lt_of_lt_of_le hb hb1.size
      go_wp2_with fail
      refine (tagsDiffer_any a cap b l _ hl HI1.out hz1 (fun i hi => okB_tag (HOK.out i hi))).mono ?_
      rintro e w2 ⟨⟨b2, rfl, hs2⟩, hb2⟩
      have HS2 : Hid (b2 = true ↔ ∀ i, i < l.length → ∀ j, j < i → (evAt l j).g ≠ (evAt l i).g) := hs2
      have HB2 : Hid (Below w.heap.size w w2) := hb1.trans (hb2.mono hb1.size)
      clear hs2
      cases b2
      · go_wp2_with fail
        go_ret
        exact ⟨Says.no (fun h => by have := HS2.out.2 h.2.2.1; cases this), HB2.out⟩
      · have HO2 : Hid (∀ i, i < l.length → ∀ j, j < i → (evAt l j).g ≠ (evAt l i).g) := HS2.out.1 rfl
        clear HS2
        have HI2 : Hid (l = [] ∨ ∃ off, a = some ⟨b, off, none⟩ ∧ EvsAt w2 b off l) := parts_below HI1.out hz1 hb2
        have hz2 : b < w2.heap.size := Nat.lt_of_lt_of_le hz1 hb2.size
        go_wp2_with fail
        refine (parents_any a cap b l _ hl HI2.out hz2 HOK.out).mono ?_
        rintro e w3 ⟨⟨b3, rfl, hs3⟩, hb3⟩
        have HS3 : Hid (b3 = true ↔ ∀ i, i < l.length → 0 < i → (evAt l ((i - 1) / 2)).cmp (evAt l i) < 0) := hs3
        clear hs3
        go_wp2_with fail
        go_ret
        refine ⟨⟨b3, rfl, ?_⟩, HB2.out.trans (hb3.mono HB2.out.size)⟩
        rw [HS3.out]
        exact ⟨fun h => ⟨h0, HOK.out, HO2.out, h⟩, fun h => h.2.2.2⟩
  · have hd : decide (l.length ≤ 2000) = false := by simpa using h0
    have hd' : (2000 : Int) < (l.length : Int) := by omega
    go_enter Try.func17, Try.ntmps17
    go_wp2_with fail
    go_ret
    exact ⟨Says.no id, Below.refl _ _⟩
theorem iHeap_any (b off cap : Nat) (l : List Ev) (w : World) (hl : l.length ≤ 1048576) (hI : EvsAt w b off l) :
    Calls Try.prog 17 #[.slice (some ⟨b, off, none⟩) l.length cap] w fun e w' => Says e (GoodH l) ∧ Below w.heap.size w w' := iHeap_parts _ cap b l w hl (.inr ⟨off, rfl, hI⟩) hI.1
end Go.Proofs.Yteecpandpkicmaa

/- HeapOk over a slice of any room, nil too; answers that are rows of one's own. -/
namespace Go.Proofs.Yteecpandpkicmaa
open Go.RowKit
theorem Src.parts {w : World} {a : Option Addr} {cap : Nat} {l : List Ev} (h : Src w (.slice a l.length cap) l) (hw : 0 < w.heap.size) : ∃ b, b < w.heap.size ∧ (l = [] ∨ ∃ off, a = some ⟨b, off, none⟩ ∧ EvsAt w b off l) := by
  rcases h with ⟨_, h⟩ | ⟨b, off, c, e, h⟩
  · exact ⟨0, hw, .inl h⟩
  · cases e
    exact ⟨b, h.1, .inr ⟨off, rfl, h⟩⟩
theorem iHeap_src (a : Option Addr) (cap : Nat) (l : List Ev) (w : World) (hl : l.length ≤ 1048576) (h : Src w (.slice a l.length cap) l) (hw : 0 < w.heap.size) :
    Calls Try.prog 17 #[.slice a l.length cap] w fun e w' => Says e (GoodH l) ∧ Below w.heap.size w w' := by
  obtain ⟨b, hb, hI⟩ := h.parts hw
  exact iHeap_parts a cap b l w hl hI hb
def AnswersR (B : Nat) (l' : List Ev) (bb : Bool) (e : Ending) (w' : World) : Prop := ∃ x, e = .returned (.tuple #[x, .bool bb]) ∧ OwnR B w' x l'
theorem ans_ofR {B : Nat} {w w1 w' : World} {x : Value} {l : List Ev} {bb : Bool} (_hb : Below B w w1) (hB : B ≤ w1.heap.size) (hx : OwnR w1.heap.size w' x l) : AnswersR B l bb (.returned (.tuple #[x, .bool bb])) w' := ⟨x, rfl, hx.mono hB⟩
end Go.Proofs.Yteecpandpkicmaa

