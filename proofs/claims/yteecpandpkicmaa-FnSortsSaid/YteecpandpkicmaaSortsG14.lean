/- InOrd, Good, QueueI -/
import Derived.Test.YteecpandpkicmaaSortsG05
import Derived.Test.YteecpandpkicmaaSortsLPair
import Derived.Test.YteecpandpkicmaaSortsG09
import Derived.Test.YteecpandpkicmaaSortsG04
import Derived.Test.YteecpandpkicmaaSortsG08
import Derived.Test.YteecpandpkicmaaSortsLLessI
import Derived.Maps.OwnSet
/- The program's inOrder. -/
namespace Go.Proofs.Yteecpandpkicmaa
open Go.RowKit Go.Shelf
attribute [local go_sem] Oper.semAt_some

def Ev.ecmp (a b : Ev) : Int := Go.Proofs.Yteecpandpkicmaa.ecmp a.t a.s a.q a.d a.k a.v a.g b.t b.s b.q b.d b.k b.v b.g
theorem iCmp_ev (a b : Ev) (z : Int) (h : a.ecmp b = z) (w : World) : Calls Try.prog 12 #[a.val, b.val] w fun r w' => r = .returned (.int .i64 z) ∧ Below w.heap.size w w' := by
  subst h; exact iCmp_any _ _ _ _ _ _ _ _ _ _ _ _ _ _ w

set_option maxRecDepth 100000 in
set_option maxHeartbeats 4000000 in
theorem inOrder_any (a : Option Addr) (cap b : Nat) (l : List Ev) (w : World) (hl : l.length ≤ 1048576) (hI : l = [] ∨ ∃ off, a = some ⟨b, off, none⟩ ∧ EvsAt w b off l) (hb : b < w.heap.size) :
    Calls Try.prog 37 #[.slice a l.length cap] w fun e w' => Says e (∀ i, i < l.length - 1 → (evAt l i).ecmp (evAt l (i + 1)) = -1) ∧ Below w.heap.size w w' := by
  refine (callsIn_wide (n := 5)).1 ?_
  refine callsIn_of_wp_marks Try.func37 rfl trivial ?_ rfl
  simp only [Try.ntmps37, List.size_toArray, List.length_cons, List.length_nil, Nat.reduceAdd, Nat.reduceSub, Array.replicate_succ, Array.replicate_zero, List.push_toArray, List.append_toArray, List.nil_append, List.cons_append]
  gi_wp2_with (refine ⟨trivial, ?_⟩; gi_at_call 57; refine (callsIn_wide.2 (pair_any _ _ _ _)).mono ?_; rintro e w' ⟨rfl, rfl⟩)
  have cR := (Boxed.new w 4 (.bool false)).alloc (.cells #[.slice a l.length cap] 23)
  have cS := Boxed.new (w.alloc (.cells #[.bool false] 4)) 23 (.slice a l.length cap)
  rw [World.size_alloc] at cS
  have hB0 : Below w.heap.size w ((w.alloc (.cells #[.bool false] 4)).alloc (.cells #[.slice a l.length cap] 23)) := ((Below.refl _ w).alloc (Nat.le_refl _) _).alloc (by simp) _
  refine wpIn_rangeFunc_ownH rfl (by omega) (gf := 66) (lb := #[.pointer (some ⟨w.heap.size + 1, 0, none⟩)]) rfl trivial (enters_of Try.func66 (by kernel_rfl) rfl)
    (pair_stops 4 (by omega) (w.heap.size + 1) b a cap l hl _ (by simp) cS.cell (hI.imp id (fun ⟨off, e, h⟩ => ⟨off, e, h.below hB0 hb⟩))) Same2.trans (Same2.putObj (by simp) (by simp; omega)) (Below.refl _ _) (fun _ => rfl)
    (fun pre W => ((∀ x ∈ pre, (evAt l x.val).ecmp (evAt l (x.val + 1)) = -1) ∧ W.cell? ⟨w.heap.size, 0, none⟩ = some (.bool false) ∧ W.frozen? ⟨w.heap.size, 0, none⟩ = false) ∧ Below (w.heap.size + 2) ((w.alloc (.cells #[.bool false] 4)).alloc (.cells #[.slice a l.length cap] 23)) W)
    (fun c pre W => (c = .ret ∧ (∃ x : Fin (l.length - 1), (evAt l x.val).ecmp (evAt l (x.val + 1)) ≠ -1) ∧ W.cell? ⟨w.heap.size, 0, none⟩ = some (.bool false)) ∧ Below w.heap.size w W)
    (OwnFrom.and (Own.from (fun s A B row hs hg hr => ⟨hs.1, cell_kept hs.2.1 hg hr, (frozen_kept hs.2.1 hg hr).trans hs.2.2⟩) _) (ownFrom_below (by simp) (by simp)))
    (fun c => OwnFrom.and (Own.from (fun s A B row hs hg hr => ⟨hs.1, hs.2.1, cell_kept hs.2.2 hg hr⟩) _) (ownFrom_below (Nat.le_refl _) (by simp; omega)))
    ⟨⟨by simp, cR.cell, cR.frozen⟩, Below.refl _ _⟩
    (fun x a' W => ∃ Bx, w.heap.size + 2 ≤ Bx ∧ Bx + 1 < W.heap.size ∧ Ev.In W Bx 0 (evAt l x.val) ∧ Ev.In W (Bx + 1) 0 (evAt l (x.val + 1)) ∧ a' = { tmps := #[.slice a l.length cap, undef, .pointer (some ⟨w.heap.size, 0, none⟩), .pointer (some ⟨Bx, 0, none⟩), .pointer (some ⟨Bx + 1, 0, none⟩), .slice a l.length cap, .func (.func 66) #[] #[.pointer (some ⟨w.heap.size + 1, 0, none⟩)], (evAt l x.val).val, (evAt l (x.val + 1)).val, undef, undef, undef, undef], defers := [] })
    (fun x a' s A B row hs hg hr => by obtain ⟨Bx, h1, h2, h3, h3', h4⟩ := hs; exact ⟨Bx, h1, Nat.lt_of_lt_of_le h2 hg.size, h3.kept hg (fun r e => (hr r e).2), h3'.kept hg (fun r e => (hr r e).2), h4⟩) ?assign ?body ?done ?stop
  case assign =>
    rintro lp pre x W K ⟨⟨hp, hc, hf⟩, hB⟩ hK
    have hz : w.heap.size + 1 < W.heap.size := by have := hB.size; simp at this; omega
    have HP : Hid (∀ x ∈ pre, (evAt l x.val).ecmp (evAt l (x.val + 1)) = -1) := hp
    clear hp
    gi_wp2
    have hBW : Below W.heap.size W ((W.alloc (.cells #[.int .i64 (evAt l x.val).t, .int .i64 (evAt l x.val).s, .int .i64 (evAt l x.val).q, .int .i64 (evAt l x.val).d, .int .i64 (evAt l x.val).k, .int .i64 (evAt l x.val).v, .int .i64 (evAt l x.val).g] 25)).alloc (.cells #[.int .i64 (evAt l (x.val + 1)).t, .int .i64 (evAt l (x.val + 1)).s, .int .i64 (evAt l (x.val + 1)).q, .int .i64 (evAt l (x.val + 1)).d, .int .i64 (evAt l (x.val + 1)).k, .int .i64 (evAt l (x.val + 1)).v, .int .i64 (evAt l (x.val + 1)).g] 25)) := ((Below.refl _ W).alloc (Nat.le_refl _) _).alloc (by simp) _
    have hE2 : Ev.In ((W.alloc (.cells #[.int .i64 (evAt l x.val).t, .int .i64 (evAt l x.val).s, .int .i64 (evAt l x.val).q, .int .i64 (evAt l x.val).d, .int .i64 (evAt l x.val).k, .int .i64 (evAt l x.val).v, .int .i64 (evAt l x.val).g] 25)).alloc (.cells #[.int .i64 (evAt l (x.val + 1)).t, .int .i64 (evAt l (x.val + 1)).s, .int .i64 (evAt l (x.val + 1)).q, .int .i64 (evAt l (x.val + 1)).d, .int .i64 (evAt l (x.val + 1)).k, .int .i64 (evAt l (x.val + 1)).v, .int .i64 (evAt l (x.val + 1)).g] 25)) (W.heap.size + 1) 0 (evAt l (x.val + 1)) := by
      have := EvAt.new (W.alloc (.cells #[.int .i64 (evAt l x.val).t, .int .i64 (evAt l x.val).s, .int .i64 (evAt l x.val).q, .int .i64 (evAt l x.val).d, .int .i64 (evAt l x.val).k, .int .i64 (evAt l x.val).v, .int .i64 (evAt l x.val).g] 25)) 25 (evAt l (x.val + 1)).t (evAt l (x.val + 1)).s (evAt l (x.val + 1)).q (evAt l (x.val + 1)).d (evAt l (x.val + 1)).k (evAt l (x.val + 1)).v (evAt l (x.val + 1)).g
      rw [World.size_alloc] at this
      exact this
    exact hK _ _ (((KeepsOthers.alloc _ _).trans (KeepsOthers.alloc _ _)).from _) (Same2.below hBW hz (by omega)) ⟨⟨HP.out, (hBW.cell (p := ⟨w.heap.size, 0, none⟩) (by simp; omega)).trans hc, (hBW.frozen (p := ⟨w.heap.size, 0, none⟩) (by simp; omega)).trans hf⟩, hB.trans (hBW.mono (by omega))⟩ ⟨W.heap.size, by omega, by simp, (EvAt.new _ _ _ _ _ _ _ _ _).alloc (by simp) _, hE2, rfl⟩
  case body =>
    rintro lp pre x a' W hlp _ ⟨⟨hp, hc, hf⟩, hB⟩ ⟨Bx, h1, h2, h3, h3', rfl⟩ hlt
    have hz : w.heap.size + 1 < W.heap.size := by have := hB.size; simp at this; omega
    obtain ⟨f0, f1, f2, f3, f4, f5, f6⟩ := h3.lits
    obtain ⟨e0, e1, e2, e3, e4, e5, e6⟩ := h3'.lits
    have HP : Hid (∀ x ∈ pre, (evAt l x.val).ecmp (evAt l (x.val + 1)) = -1) := hp
    have HB : Hid (Below (w.heap.size + 2) ((w.alloc (.cells #[.bool false] 4)).alloc (.cells #[.slice a l.length cap] 23)) W) := hB
    have HB0 : Hid (Below w.heap.size w ((w.alloc (.cells #[.bool false] 4)).alloc (.cells #[.slice a l.length cap] 23))) := hB0
    clear hp hB h3 h3' cR cS hI hB0
    generalize hzz : (evAt l x.val).ecmp (evAt l (x.val + 1)) = z
    have HZ : Hid ((evAt l x.val).ecmp (evAt l (x.val + 1)) = z) := hzz
    clear hzz
    by_cases hz1 : z = -1
    · have hne : (z != -1) = false := by simpa using hz1
      have HZ1 : Hid (z = -1) := hz1
      clear hz1
      gi_wp2_with (refine ⟨trivial, ?_⟩; gi_at_call 12; refine (CallsIn.inRound lp (callsIn_wide.2 (iCmp_ev (evAt l x.val) (evAt l (x.val + 1)) z HZ.out _))).mono ?_; rintro e w2 ⟨rfl, hb2⟩; have hc2 := (hb2.cell (p := ⟨w.heap.size, 0, none⟩) (by simp; omega)).trans hc; have hf2 := (hb2.frozen (p := ⟨w.heap.size, 0, none⟩) (by simp; omega)).trans hf)
      exact ⟨(keepsOthers_of_below hb2).from _, Same2.below hb2 hz (by omega), ⟨fun y hy => (List.mem_append.1 hy).elim (HP.out y) (fun e => by simp at e; subst e; rw [HZ.out, HZ1.out]), hc2, hf2⟩, HB.out.trans (hb2.mono (by omega))⟩
    · have hne : (z != -1) = true := by simpa using hz1
      have HZ1 : Hid (¬ z = -1) := hz1
      clear hz1
      gi_wp2_with (refine ⟨trivial, ?_⟩; gi_at_call 12; refine (CallsIn.inRound lp (callsIn_wide.2 (iCmp_ev (evAt l x.val) (evAt l (x.val + 1)) z HZ.out _))).mono ?_; rintro e w2 ⟨rfl, hb2⟩; have hc2 := (hb2.cell (p := ⟨w.heap.size, 0, none⟩) (by simp; omega)).trans hc; have hf2 := (hb2.frozen (p := ⟨w.heap.size, 0, none⟩) (by simp; omega)).trans hf)
      exact ⟨((keepsOthers_of_below hb2).trans (KeepsOthers.setCell _ _ _)).from _, ⟨rfl, ⟨x, by rw [HZ.out]; exact HZ1.out⟩, World.cell?_setCell_same' _ _ _ (by rw [hc2]; rfl)⟩, ((HB0.out.trans (HB.out.mono (by omega))).trans (hb2.mono (by omega))).setCell (p := ⟨w.heap.size, 0, none⟩) (Nat.le_refl _) _⟩
  case done =>
    rintro D ys W hD rfl ⟨⟨hp, hc, hf⟩, hB⟩ hK
    have HP : Hid (∀ x ∈ List.finRange (l.length - 1), (evAt l x.val).ecmp (evAt l (x.val + 1)) = -1) := hp
    clear hp
    gi_wp2
    have hK' := (KeepsOthers.setCell W ⟨w.heap.size, 0, none⟩ (.bool true)).same D _ hK rfl
    refine ⟨by simp, .inl ⟨_, _, rfl, run_takeDeferred hK', ?_⟩⟩
    have hc5 := cell_kept (World.cell?_setCell_same' W ⟨w.heap.size, 0, none⟩ (.bool true) (by rw [hc]; rfl)) (grownBy_putObj' _ D (.deferred none)) (fun r e => by cases e; exact ⟨_, hK', rfl⟩)
    refine ⟨.bool true, ?_, Says.yes (fun i hi => HP.out ⟨i, hi⟩ (List.mem_finRange _)), ((hB0.trans (hB.mono (by omega))).setCell (p := ⟨w.heap.size, 0, none⟩) (Nat.le_refl _) _).trans (belowK_b (w := w) (Nat.le_refl _) _ D _ _ (by simp at hD; omega) hK' rfl rfl)⟩
    simp [results, Try.f37, go_sem, hc5]
  case stop =>
    rintro D c pre W hD _ ⟨⟨rfl, ⟨x, hx⟩, hc⟩, hB⟩ hK
    have HX : Hid ((evAt l x.val).ecmp (evAt l (x.val + 1)) ≠ -1) := hx
    clear hx
    gi_wp2
    refine ⟨by simp, .inl ⟨_, _, rfl, run_takeDeferred hK, ?_⟩⟩
    have hc5 := cell_kept hc (grownBy_putObj' _ D (.deferred none)) (fun r e => by cases e; exact ⟨_, hK, rfl⟩)
    refine ⟨.bool false, ?_, Says.no (fun h => HX.out (h x.val x.isLt)), hB.trans (belowK_b (w := w) (Nat.le_refl _) W D _ _ (by simp at hD; omega) hK rfl rfl)⟩
    simp [results, Try.f37, go_sem, hc5]
end Go.Proofs.Yteecpandpkicmaa

/- What a queue is. -/
namespace Go.Proofs.Yteecpandpkicmaa
open Go.RowKit
def Good1 (l : List Ev) (i : Nat) : Prop := (evAt l i).ok = true ∧ (0 < i → (evAt l (i - 1)).cmp (evAt l i) < 0) ∧ ∀ j, j < i → (evAt l j).g ≠ (evAt l i).g
def GoodQ (l : List Ev) : Prop := l.length ≤ 2000 ∧ ∀ i, i < l.length → Good1 l i
theorem no_good {l : List Ev} {k : Nat} (hk : k < l.length) (h : ¬ Good1 l k) : ¬ GoodQ l := fun e => (h (e.2 k hk)).elim

end Go.Proofs.Yteecpandpkicmaa

/- The program's tagsDiffer and QueueOk. -/
namespace Go.Proofs.Yteecpandpkicmaa
open Go.RowKit Go.Maps Go.WideShapes

theorem goodQ_iff (l : List Ev) : GoodQ l ↔ l.length ≤ 2000 ∧ (∀ i, i < l.length → (evAt l i).ok = true) ∧ (∀ i, i < l.length - 1 → (evAt l i).ecmp (evAt l (i + 1)) = -1) ∧ ∀ i, i < l.length → ∀ j, j < i → (evAt l j).g ≠ (evAt l i).g := by
  have key : (∀ i, i < l.length → (evAt l i).ok = true) → ∀ i, i < l.length - 1 → ((evAt l i).ecmp (evAt l (i + 1)) = -1 ↔ (evAt l i).cmp (evAt l (i + 1)) < 0) := fun h i hi => by
    have h1 : okB (evAt l i).t (evAt l i).s (evAt l i).q (evAt l i).d (evAt l i).k (evAt l i).v (evAt l i).g = true := h i (by omega)
    have h2 : okB (evAt l (i + 1)).t (evAt l (i + 1)).s (evAt l (i + 1)).q (evAt l (i + 1)).d (evAt l (i + 1)).k (evAt l (i + 1)).v (evAt l (i + 1)).g = true := h (i + 1) (by omega)
    unfold Ev.ecmp Ev.cmp ecmp
    rw [if_pos ⟨h1, h2⟩]
    have := cmpI_range (evAt l i).t (evAt l i).s (evAt l i).q (evAt l i).g (evAt l (i + 1)).t (evAt l (i + 1)).s (evAt l (i + 1)).q (evAt l (i + 1)).g
    omega
  constructor
  · rintro ⟨h1, h2⟩
    have hok : ∀ i, i < l.length → (evAt l i).ok = true := fun i hi => (h2 i hi).1
    exact ⟨h1, hok, fun i hi => (key hok i hi).2 ((h2 (i + 1) (by omega)).2.1 (by omega)), fun i hi => (h2 i hi).2.2⟩
  · rintro ⟨h1, h2, h3, h4⟩
    refine ⟨h1, fun i hi => ⟨h2 i hi, fun h0 => ?_, h4 i hi⟩⟩
    obtain ⟨k, rfl⟩ : ∃ k, i = k + 1 := ⟨i - 1, by omega⟩
    exact (key h2 k (by omega)).1 (h3 k (by omega))

set_option maxHeartbeats 1000000 in
theorem iQueue_parts (a : Option Addr) (cap b : Nat) (l : List Ev) (w : World) (hl : l.length ≤ 1048576) (hI : l = [] ∨ ∃ off, a = some ⟨b, off, none⟩ ∧ EvsAt w b off l) (hb : b < w.heap.size) :
    Calls Try.prog 13 #[.slice a l.length cap] w fun e w' => Says e (GoodQ l) ∧ Below w.heap.size w w' := by
  rw [goodQ_iff]
  have HI : Hid (l = [] ∨ ∃ off, a = some ⟨b, off, none⟩ ∧ EvsAt w b off l) := hI
  clear hI
  by_cases h0 : l.length ≤ 2000
  · have hd : decide (l.length ≤ 2000) = true := by simpa using h0
    have hd' : (l.length : Int) ≤ 2000 := by omega
    go_enter Try.func13, Try.ntmps13
    go_wp2_with fail
    refine (eventsOk_any a cap b l _ hl HI.out hb).mono ?_
    rintro e w1 ⟨⟨b1, rfl, hs1⟩, hb1⟩
    have HS1 : Hid (b1 = true ↔ ∀ i, i < l.length → (evAt l i).ok = true) := hs1
    clear hs1
    cases b1
    · go_wp2_with fail
      go_ret
      exact ⟨Says.no (fun h => by have := HS1.out.2 h.2.1; cases this), hb1⟩
    · have HOK : Hid (∀ i, i < l.length → (evAt l i).ok = true) := HS1.out.1 rfl
      clear HS1
      have HI1 : Hid (l = [] ∨ ∃ off, a = some ⟨b, off, none⟩ ∧ EvsAt w1 b off l) := parts_below HI.out hb hb1
      have hz1 : b < w1.heap.size := Nat.lt_of_lt_of_le hb hb1.size
      go_wp2_with fail
      refine (inOrder_any a cap b l _ hl HI1.out hz1).mono ?_
      rintro e w2 ⟨⟨b2, rfl, hs2⟩, hb2⟩
      have HS2 : Hid (b2 = true ↔ ∀ i, i < l.length - 1 → (evAt l i).ecmp (evAt l (i + 1)) = -1) := hs2
      have HB2 : Hid (Below w.heap.size w w2) := hb1.trans (hb2.mono hb1.size)
      clear hs2
      cases b2
      · go_wp2_with fail
        go_ret
        exact ⟨Says.no (fun h => by have := HS2.out.2 h.2.2.1; cases this), HB2.out⟩
      · have HO2 : Hid (∀ i, i < l.length - 1 → (evAt l i).ecmp (evAt l (i + 1)) = -1) := HS2.out.1 rfl
        clear HS2
        have HI2 : Hid (l = [] ∨ ∃ off, a = some ⟨b, off, none⟩ ∧ EvsAt w2 b off l) := parts_below HI1.out hz1 hb2
        have hz2 : b < w2.heap.size := Nat.lt_of_lt_of_le hz1 hb2.size
        go_wp2_with fail
        refine (tagsDiffer_any a cap b l _ hl HI2.out hz2 (fun i hi => okB_tag (HOK.out i hi))).mono ?_
        rintro e w3 ⟨⟨b3, rfl, hs3⟩, hb3⟩
        have HS3 : Hid (b3 = true ↔ ∀ i, i < l.length → ∀ j, j < i → (evAt l j).g ≠ (evAt l i).g) := hs3
        clear hs3
        go_wp2_with fail
        go_ret
        refine ⟨⟨b3, rfl, ?_⟩, HB2.out.trans (hb3.mono HB2.out.size)⟩
        rw [HS3.out]
        exact ⟨fun h => ⟨h0, HOK.out, HO2.out, h⟩, fun h => h.2.2.2⟩
  · have hd : decide (l.length ≤ 2000) = false := by simpa using h0
    have hd' : (2000 : Int) < (l.length : Int) := by omega
    go_enter Try.func13, Try.ntmps13
    go_wp2_with fail
    go_ret
    exact ⟨Says.no id, Below.refl _ _⟩
end Go.Proofs.Yteecpandpkicmaa

