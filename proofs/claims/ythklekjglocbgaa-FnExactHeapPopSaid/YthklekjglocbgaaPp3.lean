/- A part of HeapPop. -/
import Derived.Test.YthklekjglocbgaaPop0
namespace Go.Proofs.Ythklekjglocbgaa
open Go.RowKit
set_option maxRecDepth 100000 in
set_option maxHeartbeats 4000000 in
theorem sPop_good (g : Nat) (l : List Ev) (w : World) (hl : l.length ≤ 1048576) (hR : RowTo w g l.length l l.length) (hg : GoodH l) (n : Nat) (hn : l.length = n + 1) :
    Calls Try.prog 19 #[.slice (some ⟨g, 0, none⟩) l.length l.length] w fun e w' => Answers3 w.heap.size (takeL l 0) (evAt l 0) true e w' ∧ Below w.heap.size w w' := by
  have hgw : g < w.heap.size := hR.1
  have hB0 : Below w.heap.size w (w.alloc (.cells #[.int .i64 0, .int .i64 0, .int .i64 0, .int .i64 0, .int .i64 0, .int .i64 0, .int .i64 0] 33)) := (Below.refl _ w).alloc (Nat.le_refl _) _
  have HR : Hid (RowTo (w.alloc (.cells #[.int .i64 0, .int .i64 0, .int .i64 0, .int .i64 0, .int .i64 0, .int .i64 0, .int .i64 0] 33)) g l.length l l.length) := hR.below hB0 hgw
  have HB0 : Hid (Below w.heap.size w (w.alloc (.cells #[.int .i64 0, .int .i64 0, .int .i64 0, .int .i64 0, .int .i64 0, .int .i64 0, .int .i64 0] 33))) := hB0
  clear hR hB0
  have HG : Hid (GoodH l) := hg
  have HN : Hid (l.length = n + 1) := hn
  have hlen : ((l.length : Int) == 0) = false := beq_eq_false_iff_ne.2 (by omega)
  have hn0 : ¬ l.length = 0 := by omega
  have hpos : (0 : Int) < (l.length : Int) := by omega
  have hn1 : n ≤ 1048575 := by omega
  have hl0 : 0 < l.length := by omega
  clear hg hn
  go_enter Try.func19, Try.ntmps19
  go_wp2_with fail
  refine (sHeap_any g 0 _ l _ hl (Nat.le_refl _) (by unfold maxLen; omega) HR.out.evs).mono ?_
  rintro e w1 ⟨⟨bb, rfl, hs⟩, hb1⟩
  have hbb : bb = true := hs.2 HG.out
  subst hbb
  clear hs
  have hz1 : w.heap.size < w1.heap.size := by have := hb1.size; simp at this; omega
  have HB1 : Hid (Below w.heap.size w w1) := HB0.out.trans (hb1.mono (by simp))
  have HR1 : Hid (RowTo w1 g l.length l l.length) := HR.out.below hb1 (by simp; omega)
  have HZ1 : Hid (EvAt w1 w.heap.size 0 0 0 0 0 0 0 0) := (EvAt.new w 33 0 0 0 0 0 0 0).below hb1 (by simp)
  have hfz : ∀ o, w1.frozen? ⟨w.heap.size, o, none⟩ = false := fun o => (hb1.frozen (p := ⟨w.heap.size, o, none⟩) (by simp)).trans (by simp)
  obtain ⟨z0, z1, z2, z3, z4, z5, z6⟩ := HZ1.out.lits
  clear hb1 HR
  have HTK : Hid (∀ W' : World, Below w1.heap.size w1 W' → Calls Try.prog 39 #[.slice (some ⟨g, 0, none⟩) l.length l.length, .int .i64 0] W' fun e w' => ∃ y, e = .returned y ∧ OwnR w1.heap.size w' y (takeL l 0) ∧ Below w1.heap.size w1 w') := fun W' hb => by
    refine (take_any _ l 0 n W' (by omega) HN.out (by omega) (HR1.out.below hb HR1.out.1).src).mono ?_
    rintro e w' ⟨y, rfl, hy, hb2⟩
    exact ⟨y, rfl, hy.mono hb.size, hb.trans (hb2.mono hb.size)⟩
  obtain ⟨f0, f1, f2, f3, f4, f5, f6⟩ := HR1.out.2.2 0 hl0
  simp only [Nat.zero_mul] at f0 f1 f2 f3 f4 f5 f6
  have hg1 : g < w1.heap.size := HR1.out.1
  go_wp2_with fail
  go_region_with (go_at_call 39; refine (HTK.out _ (Below.refl _ w1).drew).mono ?_; rintro e w2 ⟨y, rfl, hy, hb2⟩; obtain ⟨a0, a1, a2, a3, a4, a5, a6⟩ := (HZ1.out.below hb2 hz1).lits; obtain ⟨c0, c1, c2, c3, c4, c5, c6⟩ := ((EvAt.mk f0 f1 f2 f3 f4 f5 f6 : Ev.In w1 g 0 (evAt l 0)).below hb2 hg1).lits; have hfz2 : ∀ o, w2.frozen? ⟨w.heap.size, o, none⟩ = false := (fun o => (hb2.frozen (p := ⟨w.heap.size, o, none⟩) hz1).trans (hfz o)))
  all_goals
    have HY : Hid (OwnR w1.heap.size w2 y (takeL l 0)) := hy
    have HB2 : Hid (Below w1.heap.size w1 w2) := hb2
    clear hy hb2 f0 f1 f2 f3 f4 f5 f6 c0 c1 c2 c3 c4 c5 c6 z0 z1 z2 z3 z4 z5 z6 HTK
    go_wp2
    exact bodyPost_ret (v := .tuple #[y, .agg #[.int .i64 (evAt l 0).t, .int .i64 (evAt l 0).s, .int .i64 (evAt l 0).q, .int .i64 (evAt l 0).d, .int .i64 (evAt l 0).k, .int .i64 (evAt l 0).v, .int .i64 (evAt l 0).g], .bool true]) (by simp [results, Try.results19, go_sem, a0, a1, a2, a3, a4, a5, a6]) rfl ⟨⟨_, rfl, ((HY.out.turns ((Turns.refl (fun b => b = w.heap.size) w2).put (g := w.heap.size) rfl 0 (evAt l 0)) (fun k e => by omega)).mono (Nat.le_of_lt hz1)).own⟩, put7_below (HB1.out.trans (HB2.out.mono (Nat.le_of_lt hz1))) (Nat.le_refl _) 0 (evAt l 0)⟩
end Go.Proofs.Ythklekjglocbgaa
