/- TPtM, PLib, PApp, SlG, SlCe -/
import Derived.Test.YtnccenbkpocjgaaGreatExactPartNewG16
import Derived.Test.YtnccenbkpocjgaaGreatExactPartNewLTPsE
import Derived.Test.YtnccenbkpocjgaaGreatExactPartNewLTPsF
import Derived.Test.YtnccenbkpocjgaaGreatExactPartNewG08
import Derived.Test.YtnccenbkpocjgaaGreatExactPartNewG13
import Derived.Test.YtnccenbkpocjgaaGreatExactPartNewG03
import Derived.Test.YtnccenbkpocjgaaGreatExactPartNewG02
import Derived.Test.YtnccenbkpocjgaaGreatExactPartNewG12
import Derived.Test.YtnccenbkpocjgaaGreatExactPartNewLMTo
import Derived.Test.YtnccenbkpocjgaaGreatExactPartNewG01
import Derived.Test.YtnccenbkpocjgaaGreatExactPartNewG06
import Derived.Laws.OwnMore
import Derived.WalkSmall
import Derived.Test.YtnccenbkpocjgaaGreatExactPartNewG14
import Derived.Deep.Cut
import Derived.Deep.CutBlock
import Derived.Deep.RegionHeld3
import Derived.ArgAppend
import Derived.Shelf.Spec.SlicesInsertGrow
import Derived.Laws.CopyRow
import Derived.Lib.Overlaps
/- markPart, heldPart. -/
namespace Go.Proofs.YtnccenbkpocjgaaGreat
open Go.RowKit
set_option maxHeartbeats 2000000 in
theorem markState_D {F : Nat → Prop} {u : Value} {s : St} {w : World} (z : Int) (hs : s.r.length ≤ 1048577) (hz0 : 0 ≤ z) (hz1 : z ≤ 1073741824) (h : OwnD w F u (intsD s.r)) :
  Calls Tryz.prog 47 #[.agg #[u, .int .i64 s.q, .int .i64 s.d], .int .i64 z] w fun e w' => e = .returned (.int .i64 (z + ((intsD s.r).cnt : Int))) ∧ OwnD w' F u ((intsD s.r).mark z) ∧ Turns F w w' := by
 have HI : Hid (OwnD w F u (intsD s.r)) := h
 clear h
 obtain ⟨W0, hW0⟩ : ∃ W0, w.alloc (.cells #[u, .int .i64 s.q, .int .i64 s.d] 29) = W0 := ⟨_, rfl⟩
 have HB0 : Hid (Below w.heap.size w W0) := by rw [← hW0]; exact (Below.refl _ w).alloc (Nat.le_refl _) _
 have HP0 : Hid (Bk W0 w.heap.size 29 #[u, .int .i64 s.q, .int .i64 s.d]) := by rw [← hW0]; exact Bk.new w _ _
 have p0 := HP0.out.cell (i := 0) rfl
 go_enter Tryz.func47, Tryz.ntmps47
 go_wp2_with fail
 clear p0 hW0
 refine (mark_ints (F := F) (l := s.r) z hs hz0 hz1 (HI.out.under HB0.out)).mono ?_
 rintro e w1 ⟨rfl, hr, ht⟩
 go_wp2
 go_ret
 exact ⟨rfl, hr, (Turns.of_below HB0.out).trans ht⟩
set_option maxHeartbeats 2000000 in
theorem heldState_D {F : Nat → Prop} {u : Value} {s : St} {w : World} (z : Int) (hs : s.r.length ≤ 1048577) (hz0 : 0 ≤ z) (hz1 : z ≤ 1073741824) (h : OwnD w F u ((intsD s.r).mark z)) :
  Calls Tryz.prog 49 #[.agg #[u, .int .i64 s.q, .int .i64 s.d], .int .i64 z] w fun e w' => e = .returned (.int .i64 (z + ((intsD s.r).cnt : Int))) ∧ Below w.heap.size w w' := by
 have HI : Hid (OwnD w F u ((intsD s.r).mark z)) := h
 clear h
 obtain ⟨W0, hW0⟩ : ∃ W0, w.alloc (.cells #[u, .int .i64 s.q, .int .i64 s.d] 29) = W0 := ⟨_, rfl⟩
 have HB0 : Hid (Below w.heap.size w W0) := by rw [← hW0]; exact (Below.refl _ w).alloc (Nat.le_refl _) _
 have HP0 : Hid (Bk W0 w.heap.size 29 #[u, .int .i64 s.q, .int .i64 s.d]) := by rw [← hW0]; exact Bk.new w _ _
 have p0 := HP0.out.cell (i := 0) rfl
 have n1 : ¬ (z + ((intsD s.r).cnt : Int) < 0) := by omega
 go_enter Tryz.func49, Tryz.ntmps49
 go_wp2_with fail
 clear p0 hW0
 refine (held_ints (F := F) (l := s.r) z hs hz0 hz1 (HI.out.under HB0.out)).mono ?_
 rintro e w1 ⟨rfl, hb⟩
 have HB1 : Hid (Below w.heap.size w w1) := HB0.out.trans (hb.mono HB0.out.size)
 clear hb
 go_wp2
 go_ret
 exact ⟨rfl, HB1.out⟩
def HeldPart (F : Nat → Prop) (w : World) (y : Value) (p : Pa) (z : Int) : Prop :=
 ∃ (A1 A4 A5 A6 : Nat → Prop) (u1 u4 u5 u6 : Value), y = .agg #[.int .i64 p.n, u1, .int .i64 p.st.q, .int .i64 p.st.d, u4, u5, u6] ∧ OwnD w A1 u1 ((intsD p.st.r).mark (z)) ∧ OwnD w A4 u4 ((pastsD p.p).mark (z + ((intsD p.st.r).cnt : Int))) ∧ OwnD w A5 u5 ((evsD p.t).mark (z + ((intsD p.st.r).cnt : Int) + ((pastsD p.p).cnt : Int))) ∧ OwnD w A6 u6 ((intsD p.a).mark (z + ((intsD p.st.r).cnt : Int) + ((pastsD p.p).cnt : Int) + ((evsD p.t).cnt : Int))) ∧ (∀ k, A1 k → F k ∧ ¬ A4 k ∧ ¬ A5 k ∧ ¬ A6 k) ∧ (∀ k, A4 k → F k ∧ ¬ A5 k ∧ ¬ A6 k) ∧ (∀ k, A5 k → F k ∧ ¬ A6 k) ∧ (∀ k, A6 k → F k)
def Pa.cntA (p : Pa) : Nat := (intsD p.st.r).cnt + (pastsD p.p).cnt + (evsD p.t).cnt + (intsD p.a).cnt
theorem Pa.cntA_le (p : Pa) : p.cntA ≤ 40 * p.wt := by
 have t1 := Dat.cnt_le (ints_thin p.st.r)
 have t4 := Dat.cnt_le (pasts_thin p.p)
 have t5 := Dat.cnt_le (evs_thin p.t)
 have t6 := Dat.cnt_le (ints_thin p.a)
 have t1 : (intsD p.st.r).cnt ≤ 40 * (intsD p.st.r).wt := t1
 have t4 : (pastsD p.p).cnt ≤ 40 * (pastsD p.p).wt := t4
 have t5 : (evsD p.t).cnt ≤ 40 * (evsD p.t).wt := t5
 have t6 : (intsD p.a).cnt ≤ 40 * (intsD p.a).wt := t6
 unfold Pa.cntA Pa.wt
 omega
set_option maxRecDepth 100000 in
set_option maxHeartbeats 8000000 in
theorem markPart_any {F : Nat → Prop} {x : Value} {p : Pa} {w : World} (z : Int) (hn : p.wt ≤ 1048577) (hz0 : 0 ≤ z) (hz1 : z + (p.cntA : Int) ≤ 1073741824) (h : PartF F w x p) :
  Calls Tryz.prog 14 #[x, .int .i64 z] w fun e w' => e = .returned (.int .i64 (z + (p.cntA : Int))) ∧ HeldPart F w' x p z ∧ Turns F w w' := by
 obtain ⟨A1, A4, A5, A6, u1, u4, u5, u6, rfl, h1, h4, h5, h6, d1, d4, d5, d6⟩ := h
 have HN : Hid (p.wt ≤ 1048577) := hn
 have hc : p.cntA = (intsD p.st.r).cnt + (pastsD p.p).cnt + (evsD p.t).cnt + (intsD p.a).cnt := rfl
 rw [hc] at hz1 ⊢
 have HZ : Hid (z + (((intsD p.st.r).cnt + (pastsD p.p).cnt + (evsD p.t).cnt + (intsD p.a).cnt : Nat) : Int) ≤ 1073741824) := hz1
 have hwt := hn
 unfold Pa.wt at hwt
 simp only [evs_wt, ints_wt] at hwt
 have O1 : Hid (OwnD w (fun k => A1 k ∧ k < w.heap.size) u1 (intsD p.st.r)) := h1.live
 have D1 : Hid (∀ k, A1 k → F k ∧ ¬ A4 k ∧ ¬ A5 k ∧ ¬ A6 k) := d1
 have O4 : Hid (OwnD w (fun k => A4 k ∧ k < w.heap.size) u4 (pastsD p.p)) := h4.live
 have D4 : Hid (∀ k, A4 k → F k ∧ ¬ A5 k ∧ ¬ A6 k) := d4
 have O5 : Hid (OwnD w (fun k => A5 k ∧ k < w.heap.size) u5 (evsD p.t)) := h5.live
 have D5 : Hid (∀ k, A5 k → F k ∧ ¬ A6 k) := d5
 have O6 : Hid (OwnD w (fun k => A6 k ∧ k < w.heap.size) u6 (intsD p.a)) := h6.live
 have D6 : Hid (∀ k, A6 k → F k) := d6
 clear hn hz1 hc h1 d1 h4 d4 h5 d5 h6 d6
 obtain ⟨W0, hW0⟩ : ∃ W0, w.alloc (.cells #[.int .i64 p.n, u1, .int .i64 p.st.q, .int .i64 p.st.d, u4, u5, u6] 33) = W0 := ⟨_, rfl⟩
 have HB0 : Hid (Below w.heap.size w W0) := by rw [← hW0]; exact (Below.refl _ w).alloc (Nat.le_refl _) _
 have HP0 : Hid (Bk W0 w.heap.size 33 #[.int .i64 p.n, u1, .int .i64 p.st.q, .int .i64 p.st.d, u4, u5, u6]) := by rw [← hW0]; exact Bk.new w _ _
 have HT0 : Hid (Turns F w W0) := Turns.of_below HB0.out
 have HW : Hid (w.alloc (.cells #[.int .i64 p.n, u1, .int .i64 p.st.q, .int .i64 p.st.d, u4, u5, u6] 33) = W0) := hW0
 clear hW0
 have O1' : Hid (OwnD W0 (fun k => A1 k ∧ k < w.heap.size) u1 (intsD p.st.r)) := O1.out.under HB0.out
 clear O1
 have O1 := O1'
 clear O1'
 have O4' : Hid (OwnD W0 (fun k => A4 k ∧ k < w.heap.size) u4 (pastsD p.p)) := O4.out.under HB0.out
 clear O4
 have O4 := O4'
 clear O4'
 have O5' : Hid (OwnD W0 (fun k => A5 k ∧ k < w.heap.size) u5 (evsD p.t)) := O5.out.under HB0.out
 clear O5
 have O5 := O5'
 clear O5'
 have O6' : Hid (OwnD W0 (fun k => A6 k ∧ k < w.heap.size) u6 (intsD p.a)) := O6.out.under HB0.out
 clear O6
 have O6 := O6'
 clear O6'
 go_enter Tryz.func14, Tryz.ntmps14
 have p1 := HP0.out.cell (i := 1) rfl
 have p2 := HP0.out.cell (i := 2) rfl
 have p3 := HP0.out.cell (i := 3) rfl
 have b1 : z ≤ 1073741824 := by have := HZ.out; omega
 go_wp2_with fail
 rw [HW.out]
 clear HW
 clear p1 p2 p3
 refine (markState_D (F := fun k => A1 k ∧ k < w.heap.size) (s := p.st) z (by omega) hz0 b1 O1.out).mono ?_
 rintro e w1 ⟨rfl, hr, ht⟩
 have M1 : Hid (OwnD w1 (fun k => A1 k ∧ k < w.heap.size) u1 ((intsD p.st.r).mark z)) := hr
 have HP1 : Hid (Bk w1 w.heap.size 33 #[.int .i64 p.n, u1, .int .i64 p.st.q, .int .i64 p.st.d, u4, u5, u6]) := HP0.out.turns ht (fun e => by omega)
 have HT1 : Hid (Turns F w w1) := HT0.out.trans (ht.mono (fun k e => (D1.out k e.1).1))
 have O4' : Hid (OwnD w1 (fun k => A4 k ∧ k < w.heap.size) u4 (pastsD p.p)) := O4.out.turns ht (fun k e e' => (D1.out k e'.1).2.1 e.1)
 clear O4
 have O4 := O4'
 clear O4'
 have O5' : Hid (OwnD w1 (fun k => A5 k ∧ k < w.heap.size) u5 (evsD p.t)) := O5.out.turns ht (fun k e e' => (D1.out k e'.1).2.2.1 e.1)
 clear O5
 have O5 := O5'
 clear O5'
 have O6' : Hid (OwnD w1 (fun k => A6 k ∧ k < w.heap.size) u6 (intsD p.a)) := O6.out.turns ht (fun k e e' => (D1.out k e'.1).2.2.2 e.1)
 clear O6
 have O6 := O6'
 clear O6'
 clear hr ht
 obtain ⟨y1, hy⟩ : ∃ y1 : Int, y1 = z + ((intsD p.st.r).cnt : Int) := ⟨_, rfl⟩
 have HY1 : Hid (y1 = z + ((intsD p.st.r).cnt : Int)) := by exact hy
 have y10 : 0 ≤ y1 := by omega
 rw [← hy]
 clear hy
 have p4 := HP1.out.cell (i := 4) rfl
 have b4 : y1 ≤ 1073741824 := by have := HZ.out; have := HY1.out; omega
 go_wp2_with fail
 clear p4
 refine (mark_pasts (F := fun k => A4 k ∧ k < w.heap.size) (l := p.p) y1 (by omega) y10 (by have := HZ.out; have := HY1.out; omega) O4.out).mono ?_
 rintro e w2 ⟨rfl, hr, ht⟩
 have M4 : Hid (OwnD w2 (fun k => A4 k ∧ k < w.heap.size) u4 ((pastsD p.p).mark y1)) := hr
 have HP2 : Hid (Bk w2 w.heap.size 33 #[.int .i64 p.n, u1, .int .i64 p.st.q, .int .i64 p.st.d, u4, u5, u6]) := HP1.out.turns ht (fun e => by omega)
 have HT2 : Hid (Turns F w w2) := HT1.out.trans (ht.mono (fun k e => (D4.out k e.1).1))
 have M1' : Hid (OwnD w2 (fun k => A1 k ∧ k < w.heap.size) u1 ((intsD p.st.r).mark z)) := M1.out.turns ht (fun k e e' => (D1.out k e.1).2.1 e'.1)
 clear M1
 have M1 := M1'
 clear M1'
 have O5' : Hid (OwnD w2 (fun k => A5 k ∧ k < w.heap.size) u5 (evsD p.t)) := O5.out.turns ht (fun k e e' => (D4.out k e'.1).2.1 e.1)
 clear O5
 have O5 := O5'
 clear O5'
 have O6' : Hid (OwnD w2 (fun k => A6 k ∧ k < w.heap.size) u6 (intsD p.a)) := O6.out.turns ht (fun k e e' => (D4.out k e'.1).2.2 e.1)
 clear O6
 have O6 := O6'
 clear O6'
 clear hr ht
 obtain ⟨y2, hy⟩ : ∃ y2 : Int, y2 = y1 + ((pastsD p.p).cnt : Int) := ⟨_, rfl⟩
 have HY2 : Hid (y2 = z + ((intsD p.st.r).cnt : Int) + ((pastsD p.p).cnt : Int)) := by have := HY1.out; show y2 = _; omega
 have y20 : 0 ≤ y2 := by omega
 rw [← hy]
 clear hy
 have p5 := HP2.out.cell (i := 5) rfl
 have b5 : y2 ≤ 1073741824 := by have := HZ.out; have := HY2.out; omega
 go_wp2_with fail
 clear p5
 refine (mark_evs (F := fun k => A5 k ∧ k < w.heap.size) (l := p.t) y2 (by omega) y20 b5 O5.out).mono ?_
 rintro e w3 ⟨rfl, hr, ht⟩
 have M5 : Hid (OwnD w3 (fun k => A5 k ∧ k < w.heap.size) u5 ((evsD p.t).mark y2)) := hr
 have HP3 : Hid (Bk w3 w.heap.size 33 #[.int .i64 p.n, u1, .int .i64 p.st.q, .int .i64 p.st.d, u4, u5, u6]) := HP2.out.turns ht (fun e => by omega)
 have HT3 : Hid (Turns F w w3) := HT2.out.trans (ht.mono (fun k e => (D5.out k e.1).1))
 have M1' : Hid (OwnD w3 (fun k => A1 k ∧ k < w.heap.size) u1 ((intsD p.st.r).mark z)) := M1.out.turns ht (fun k e e' => (D1.out k e.1).2.2.1 e'.1)
 clear M1
 have M1 := M1'
 clear M1'
 have M4' : Hid (OwnD w3 (fun k => A4 k ∧ k < w.heap.size) u4 ((pastsD p.p).mark y1)) := M4.out.turns ht (fun k e e' => (D4.out k e.1).2.1 e'.1)
 clear M4
 have M4 := M4'
 clear M4'
 have O6' : Hid (OwnD w3 (fun k => A6 k ∧ k < w.heap.size) u6 (intsD p.a)) := O6.out.turns ht (fun k e e' => (D5.out k e'.1).2 e.1)
 clear O6
 have O6 := O6'
 clear O6'
 clear hr ht
 obtain ⟨y3, hy⟩ : ∃ y3 : Int, y3 = y2 + ((evsD p.t).cnt : Int) := ⟨_, rfl⟩
 have HY3 : Hid (y3 = z + ((intsD p.st.r).cnt : Int) + ((pastsD p.p).cnt : Int) + ((evsD p.t).cnt : Int)) := by have := HY2.out; show y3 = _; omega
 have y30 : 0 ≤ y3 := by omega
 rw [← hy]
 clear hy
 have p6 := HP3.out.cell (i := 6) rfl
 have b6 : y3 ≤ 1073741824 := by have := HZ.out; have := HY3.out; omega
 go_wp2_with fail
 clear p6
 refine (mark_ints (F := fun k => A6 k ∧ k < w.heap.size) (l := p.a) y3 (by omega) y30 b6 O6.out).mono ?_
 rintro e w4 ⟨rfl, hr, ht⟩
 have M6 : Hid (OwnD w4 (fun k => A6 k ∧ k < w.heap.size) u6 ((intsD p.a).mark y3)) := hr
 have HP4 : Hid (Bk w4 w.heap.size 33 #[.int .i64 p.n, u1, .int .i64 p.st.q, .int .i64 p.st.d, u4, u5, u6]) := HP3.out.turns ht (fun e => by omega)
 have HT4 : Hid (Turns F w w4) := HT3.out.trans (ht.mono (fun k e => (D6.out k e.1)))
 have M1' : Hid (OwnD w4 (fun k => A1 k ∧ k < w.heap.size) u1 ((intsD p.st.r).mark z)) := M1.out.turns ht (fun k e e' => (D1.out k e.1).2.2.2 e'.1)
 clear M1
 have M1 := M1'
 clear M1'
 have M4' : Hid (OwnD w4 (fun k => A4 k ∧ k < w.heap.size) u4 ((pastsD p.p).mark y1)) := M4.out.turns ht (fun k e e' => (D4.out k e.1).2.2 e'.1)
 clear M4
 have M4 := M4'
 clear M4'
 have M5' : Hid (OwnD w4 (fun k => A5 k ∧ k < w.heap.size) u5 ((evsD p.t).mark y2)) := M5.out.turns ht (fun k e e' => (D5.out k e.1).2 e'.1)
 clear M5
 have M5 := M5'
 clear M5'
 clear hr ht
 obtain ⟨y4, hy⟩ : ∃ y4 : Int, y4 = y3 + ((intsD p.a).cnt : Int) := ⟨_, rfl⟩
 have HY4 : Hid (y4 = z + ((intsD p.st.r).cnt : Int) + ((pastsD p.p).cnt : Int) + ((evsD p.t).cnt : Int) + ((intsD p.a).cnt : Int)) := by have := HY3.out; show y4 = _; omega
 have y40 : 0 ≤ y4 := by omega
 rw [← hy]
 clear hy
 go_wp2
 go_ret
 refine ⟨ret_int (by have := HY4.out; omega), ⟨(fun k => A1 k ∧ k < w.heap.size), (fun k => A4 k ∧ k < w.heap.size), (fun k => A5 k ∧ k < w.heap.size), (fun k => A6 k ∧ k < w.heap.size), _, _, _, _, rfl, M1.out, (by rw [← HY1.out]; exact M4.out), (by rw [← HY2.out]; exact M5.out), (by rw [← HY3.out]; exact M6.out), fun k e => ⟨(D1.out k e.1).1, fun e' => (D1.out k e.1).2.1 e'.1, fun e' => (D1.out k e.1).2.2.1 e'.1, fun e' => (D1.out k e.1).2.2.2 e'.1⟩, fun k e => ⟨(D4.out k e.1).1, fun e' => (D4.out k e.1).2.1 e'.1, fun e' => (D4.out k e.1).2.2 e'.1⟩, fun k e => ⟨(D5.out k e.1).1, fun e' => (D5.out k e.1).2 e'.1⟩, fun k e => D6.out k e.1⟩, HT4.out⟩
set_option maxRecDepth 100000 in
set_option maxHeartbeats 8000000 in
theorem heldPart_any {F : Nat → Prop} {x : Value} {p : Pa} {w : World} (z : Int) (hn : p.wt ≤ 1048577) (hz0 : 0 ≤ z) (hz1 : z + (p.cntA : Int) ≤ 1073741824) (h : HeldPart F w x p z) :
  Calls Tryz.prog 15 #[x, .int .i64 z] w fun e w' => e = .returned (.int .i64 (z + (p.cntA : Int))) ∧ Below w.heap.size w w' := by
 obtain ⟨A1, A4, A5, A6, u1, u4, u5, u6, rfl, h1, h4, h5, h6, _, _, _, _⟩ := h
 have hc : p.cntA = (intsD p.st.r).cnt + (pastsD p.p).cnt + (evsD p.t).cnt + (intsD p.a).cnt := rfl
 rw [hc] at hz1 ⊢
 have HZ : Hid (z + (((intsD p.st.r).cnt + (pastsD p.p).cnt + (evsD p.t).cnt + (intsD p.a).cnt : Nat) : Int) ≤ 1073741824) := hz1
 have hwt := hn
 unfold Pa.wt at hwt
 simp only [evs_wt, ints_wt] at hwt
 have O1 : Hid (OwnD w A1 u1 ((intsD p.st.r).mark (z))) := h1
 have O4 : Hid (OwnD w A4 u4 ((pastsD p.p).mark (z + ((intsD p.st.r).cnt : Int)))) := h4
 have O5 : Hid (OwnD w A5 u5 ((evsD p.t).mark (z + ((intsD p.st.r).cnt : Int) + ((pastsD p.p).cnt : Int)))) := h5
 have O6 : Hid (OwnD w A6 u6 ((intsD p.a).mark (z + ((intsD p.st.r).cnt : Int) + ((pastsD p.p).cnt : Int) + ((evsD p.t).cnt : Int)))) := h6
 clear hn hz1 hc h1 h4 h5 h6
 obtain ⟨W0, hW0⟩ : ∃ W0, w.alloc (.cells #[.int .i64 p.n, u1, .int .i64 p.st.q, .int .i64 p.st.d, u4, u5, u6] 33) = W0 := ⟨_, rfl⟩
 have HB0 : Hid (Below w.heap.size w W0) := by rw [← hW0]; exact (Below.refl _ w).alloc (Nat.le_refl _) _
 have HP0 : Hid (Bk W0 w.heap.size 33 #[.int .i64 p.n, u1, .int .i64 p.st.q, .int .i64 p.st.d, u4, u5, u6]) := by rw [← hW0]; exact Bk.new w _ _
 have HW : Hid (w.alloc (.cells #[.int .i64 p.n, u1, .int .i64 p.st.q, .int .i64 p.st.d, u4, u5, u6] 33) = W0) := hW0
 clear hW0
 go_enter Tryz.func15, Tryz.ntmps15
 have p1 := HP0.out.cell (i := 1) rfl
 have p2 := HP0.out.cell (i := 2) rfl
 have p3 := HP0.out.cell (i := 3) rfl
 have b1 : z ≤ 1073741824 := by have := HZ.out; omega
 go_wp2_with fail
 rw [HW.out]
 clear HW
 clear p1 p2 p3
 refine (heldState_D (F := A1) (s := p.st) z (by omega) hz0 b1 (O1.out.under HB0.out)).mono ?_
 rintro e w1 ⟨rfl, hb⟩
 have HB1 : Hid (Below w.heap.size w w1) := HB0.out.trans (hb.mono HB0.out.size)
 have HP1 : Hid (Bk w1 w.heap.size 33 #[.int .i64 p.n, u1, .int .i64 p.st.q, .int .i64 p.st.d, u4, u5, u6]) := HP0.out.below hb
 clear hb
 obtain ⟨y1, hy⟩ : ∃ y1 : Int, y1 = z + ((intsD p.st.r).cnt : Int) := ⟨_, rfl⟩
 have HY1 : Hid (y1 = z + ((intsD p.st.r).cnt : Int)) := by exact hy
 have y10 : 0 ≤ y1 := by omega
 have y12 : ¬ (y1 < 0) := by omega
 rw [← hy]
 clear hy
 have p4 := HP1.out.cell (i := 4) rfl
 have b4 : y1 ≤ 1073741824 := by have := HZ.out; have := HY1.out; omega
 go_wp2_with fail
 clear p4
 refine (held_pasts (F := A4) (l := p.p) y1 (by omega) y10 (by have := HZ.out; have := HY1.out; omega) (by rw [HY1.out]; exact O4.out.under HB1.out)).mono ?_
 rintro e w2 ⟨rfl, hb⟩
 have HB2 : Hid (Below w.heap.size w w2) := HB1.out.trans (hb.mono HB1.out.size)
 have HP2 : Hid (Bk w2 w.heap.size 33 #[.int .i64 p.n, u1, .int .i64 p.st.q, .int .i64 p.st.d, u4, u5, u6]) := HP1.out.below hb
 clear hb
 obtain ⟨y2, hy⟩ : ∃ y2 : Int, y2 = y1 + ((pastsD p.p).cnt : Int) := ⟨_, rfl⟩
 have HY2 : Hid (y2 = z + ((intsD p.st.r).cnt : Int) + ((pastsD p.p).cnt : Int)) := by have := HY1.out; show y2 = _; omega
 have y20 : 0 ≤ y2 := by omega
 have y22 : ¬ (y2 < 0) := by omega
 rw [← hy]
 clear hy
 have p5 := HP2.out.cell (i := 5) rfl
 have b5 : y2 ≤ 1073741824 := by have := HZ.out; have := HY2.out; omega
 go_wp2_with fail
 clear p5
 refine (held_evs (F := A5) (l := p.t) y2 (by omega) y20 b5 (by rw [HY2.out]; exact O5.out.under HB2.out)).mono ?_
 rintro e w3 ⟨rfl, hb⟩
 have HB3 : Hid (Below w.heap.size w w3) := HB2.out.trans (hb.mono HB2.out.size)
 have HP3 : Hid (Bk w3 w.heap.size 33 #[.int .i64 p.n, u1, .int .i64 p.st.q, .int .i64 p.st.d, u4, u5, u6]) := HP2.out.below hb
 clear hb
 obtain ⟨y3, hy⟩ : ∃ y3 : Int, y3 = y2 + ((evsD p.t).cnt : Int) := ⟨_, rfl⟩
 have HY3 : Hid (y3 = z + ((intsD p.st.r).cnt : Int) + ((pastsD p.p).cnt : Int) + ((evsD p.t).cnt : Int)) := by have := HY2.out; show y3 = _; omega
 have y30 : 0 ≤ y3 := by omega
 have y32 : ¬ (y3 < 0) := by omega
 rw [← hy]
 clear hy
 have p6 := HP3.out.cell (i := 6) rfl
 have b6 : y3 ≤ 1073741824 := by have := HZ.out; have := HY3.out; omega
 go_wp2_with fail
 clear p6
 refine (held_ints (F := A6) (l := p.a) y3 (by omega) y30 b6 (by rw [HY3.out]; exact O6.out.under HB3.out)).mono ?_
 rintro e w4 ⟨rfl, hb⟩
 have HB4 : Hid (Below w.heap.size w w4) := HB3.out.trans (hb.mono HB3.out.size)
 have HP4 : Hid (Bk w4 w.heap.size 33 #[.int .i64 p.n, u1, .int .i64 p.st.q, .int .i64 p.st.d, u4, u5, u6]) := HP3.out.below hb
 clear hb
 obtain ⟨y4, hy⟩ : ∃ y4 : Int, y4 = y3 + ((intsD p.a).cnt : Int) := ⟨_, rfl⟩
 have HY4 : Hid (y4 = z + ((intsD p.st.r).cnt : Int) + ((pastsD p.p).cnt : Int) + ((evsD p.t).cnt : Int) + ((intsD p.a).cnt : Int)) := by have := HY3.out; show y4 = _; omega
 have y40 : 0 ≤ y4 := by omega
 have y42 : ¬ (y4 < 0) := by omega
 rw [← hy]
 clear hy
 go_wp2
 go_ret
 exact ⟨ret_int (by have := HY4.out; omega), HB4.out⟩
end Go.Proofs.YtnccenbkpocjgaaGreat

/- General lemmas: what is owned, what is put, appends. -/
namespace Go.Proofs.YtnccenbkpocjgaaGreat
open Go.RowKit
theorem Turns.grown {S : Nat → Prop} {a w w' : World} {row : Option Nat} (h : Turns S a w) (hg : w.grownBy w' row) (hr : ∀ k, row = some k → S k) : Turns S a w' :=
 h.trans ⟨hg.os, hg.tape, hg.output, hg.size, fun k hk hn => hg.block k hk (fun e => hn (hr k e.symm))⟩
def NewRow (w : World) (v v' : Value) : Prop := v'.ownBlock = v.ownBlock ∨ ∀ k, v'.ownBlock = some k → w.heap.size ≤ k
theorem run_append_own2 {P : Program} (w : World) (base : Nat) (t ty e : TypeId) (i : TypeInfo) (z : Value) (size bytes : Nat) (ht : P.underlying t = some (.slice e)) (hi : P.info? e = some i) (hz : i.zero = some z) (hsize : i.size = size) (hby : i.bytes = bytes) (hzs : z.cells.size = size) (hsz : 0 < size)
  (v : Value) (n : Nat) (xs : List Value) (hown : w.ownsRow base e size v n xs) (ad : Addr) (m c : Nat) (news : List Value) (hl : news.length = m * size) (hnews : ∀ j u, news[j]? = some u → w.cell? (ad.add j) = some u) (h1 : ∀ u ∈ news, u.oneCell' = true)
  (h63 : n + m ≤ maxLen) (hbytes : (n + m) * bytes ≤ 140737488355328) (hbase : base ≤ w.heap.size) :
  ∃ v' w', (Builtin.append_ #[t, t] ty #[v, .slice (some ad) m c]).run P w = .ok v' w' ∧ w'.ownsRow base e size v' (n + m) (xs ++ news) ∧ w.grownBy w' v.ownBlock ∧ NewRow w v v' := by
 obtain ⟨v', w', hr, h2, h3, _⟩ := run_append_own (P := P) w base t ty e i z size bytes ht hi hz hsize hby hzs hsz v n xs hown ad m c news hl hnews h1 h63 hbytes hbase
 refine ⟨v', w', hr, h2, h3, ?_⟩
 have hown' := hown
 obtain ⟨_, ⟨rfl, h0⟩ | ⟨g, cap, cur, rfl, hg, hc, hnc, hcm, hcs, htk⟩⟩ := hown
 ·right
  obtain ⟨v2, w2, hr2, r1, _⟩ := run_append_own (P := P) w w.heap.size t ty e i z size bytes ht hi hz hsize hby hzs hsz (.slice none 0 0) n xs ⟨hown'.1, .inl ⟨rfl, h0⟩⟩ ad m c news hl hnews h1 h63 hbytes (Nat.le_refl _)
  rw [hr] at hr2
  cases hr2
  exact fun k e => (World.ownsRow.lt r1 k e).1
 ·by_cases hroom : n + m ≤ cap
  ·left
   obtain ⟨w2, hr2, _⟩ := run_append_fits (P := P) w base t ty e i size ht hi hsize g n cap xs hown' ad m c news hl hnews h1 hroom
   rw [hr] at hr2
   cases hr2
   rfl
  ·right
   obtain ⟨v2, w2, hr2, r1, _⟩ := run_append_arg_grows (P := P) w t ty e i z size bytes ht hi hz hsize hby hzs hsz ⟨g, 0, none⟩ n cap xs hown'.1 (World.ownsRow.cells hown' rfl) ad m c news hl hnews (by omega) h63 hbytes
   rw [hr] at hr2
   cases hr2
   exact fun k e => (World.ownsRow.lt r1 k e).1
theorem step_append_own2 {P : Program} {ops : Array Oper} {o : Oper} {a : Act} {w : World} {K : Act → World → Prop} {Q : Exit → Act → World → Prop} {E : Prop}
  (hg : o.guard = none) (s x : Operand) (t : TypeId) (hop : o.op = Op.call { callee := Callee.builtin Builtin.append, args := #[s, x], argTypes := #[t, t] })
  (base : Nat) (e : TypeId) (i : TypeInfo) (z : Value) (size bytes : Nat) (h1 : P.underlying t = some (.slice e)) (h2 : P.info? e = some i) (h3 : i.zero = some z) (h4 : i.size = size) (h5 : i.bytes = bytes) (h6 : z.cells.size = size) (h7 : 0 < size)
  (v : Value) (n : Nat) (xs : List Value) (hs : a.eval s = v) (hown : w.ownsRow base e size v n xs)
  (ad : Addr) (m c : Nat) (news : List Value) (hx : a.eval x = .slice (some ad) m c) (hn : news.length = m * size) (hc : ∀ j u, news[j]? = some u → w.cell? (ad.add j) = some u) (h1c : ∀ u ∈ news, u.oneCell' = true)
  (b1 : n + m ≤ maxLen) (b2 : (n + m) * bytes ≤ 140737488355328) (hbase : base ≤ w.heap.size)
  (hK : ∀ v' w', w'.ownsRow base e size v' (n + m) (xs ++ news) → w.grownBy w' v.ownBlock → NewRow w v v' → K (a.put o.dst v') w') :
  if Region.wanted o (yielded ops a.tmps) = true then Oper.wp P o a w K Q else E := by
 have hw : Region.wanted o (yielded ops a.tmps) = true := by simp [Region.wanted, hg]
 rw [if_pos hw]
 obtain ⟨v', w', hr, q1, q2, q3⟩ := run_append_own2 (P := P) w base t o.type e i z size bytes h1 h2 h3 h4 h5 h6 h7 v n xs hown ad m c news hn hc h1c b1 b2 hbase
 unfold Oper.wp execOp
 simp only [hop, resolve, invoke, builtin, Sem.run_bind, Sem.run_pure, Result.andThen_ok, List.map_toArray, List.map_cons, List.map_nil, hs, hx, hr]
 exact hK v' w' q1 q2 q3
theorem own_rowF {B : Nat} {T : TypeId} {w : World} {x : Value} {n c : Nat} {cs : List Value} (hcs : cs.length = n * c) (h : w.ownsRow B T c x n cs) : RowF (fun k => x.ownBlock = some k) w x n c cs := by
 obtain ⟨hl, ⟨rfl, h0⟩ | ⟨g, cap, cur, rfl, hg, hc, h1, h2, h3, h4⟩⟩ := h
 ·exact ⟨hcs, none, 0, by rw [h0], by omega, by unfold maxLen; omega, .inl h0⟩
 ·have hlt : g < w.heap.size := (Array.getElem?_eq_some_iff.1 hc).1
  refine ⟨hcs, _, cap, rfl, h1, h2, .inr ⟨g, rfl, rfl, hlt, fun j hj => ?_⟩⟩
  have hj2 : j < cur.size := by rw [h3]; exact Nat.lt_of_lt_of_le hj (Nat.mul_le_mul_right c h1)
  refine ⟨?_, by simp [World.frozen?, hc]⟩
  rw [← h4, List.getElem?_take_of_lt (by omega)]
  simp [World.cell?, hc]
theorem owns_same {w w' : World} {B : Nat} {v : Value} {T : TypeId} {c n : Nat} {cs : List Value} (h : w.ownsRow B T c v n cs) (hb : ∀ k, v.ownBlock = some k → w'.heap[k]? = w.heap[k]?) : w'.ownsRow B T c v n cs := by
 obtain ⟨h0, ⟨e, h1⟩ | ⟨g, cap, cur, rfl, hg, hc, h1⟩⟩ := h
 ·exact ⟨h0, .inl ⟨e, h1⟩⟩
 ·exact ⟨h0, .inr ⟨g, cap, cur, rfl, hg, (hb g rfl).trans hc, h1⟩⟩
theorem owns_turns {S : Nat → Prop} {w w' : World} {B : Nat} {v : Value} {T : TypeId} {c n : Nat} {cs : List Value} (h : w.ownsRow B T c v n cs) (ht : Turns S w w') (hS : ∀ k, v.ownBlock = some k → ¬ S k) : w'.ownsRow B T c v n cs :=
 owns_same h fun k hk => ht.block k (World.ownsRow.lt h k hk).2 (hS k hk)
theorem rowI_empty (w : World) : (w.alloc (.cells #[] 3)).ownsRow w.heap.size 3 1 (.slice (some ⟨w.heap.size, 0, none⟩) 0 0) 0 [] :=
 ⟨rfl, .inr ⟨w.heap.size, 0, #[], rfl, Nat.le_refl _, (MapKept.heap_alloc w _).1, Nat.le_refl _, Nat.zero_le _, rfl, rfl⟩⟩
theorem Turns.belowT {S : Nat → Prop} {a b c : World} (h : Turns S a b) (k : Below a.heap.size b c) : Turns S a c :=
 ⟨k.os.trans h.os, k.tape.trans h.tape, k.output.trans h.output, Nat.le_trans h.size k.size, fun i hi hS => (k.block i hi).trans (h.block i hi hS)⟩
theorem grown_turns {w w' : World} {row : Option Nat} (h : w.grownBy w' row) : Turns (fun k => row = some k) w w' := ⟨h.os, h.tape, h.output, h.size, fun k hk hS => h.block k hk (fun e => hS e.symm)⟩
theorem owns_ne {B : Nat} {e : TypeId} {size n : Nat} {w : World} {v : Value} {xs : List Value} (h : w.ownsRow B e size v n xs) {P : Nat} {T : TypeId} {vs : Array Value} (hb : Bk w P T vs) (hT : T ≠ e) : ¬ v.ownBlock = some P := by
 intro hE
 obtain ⟨_, ⟨rfl, _⟩ | ⟨g, cap, cur, rfl, _, hc, _⟩⟩ := h
 ·simp [Value.ownBlock] at hE
 ·simp [Value.ownBlock] at hE
  subst hE
  have hb' : w.heap[g]? = some (.cells vs T) := hb
  rw [hb'] at hc
  simp at hc
  exact hT hc.2
theorem owns_lt {B : Nat} {e : TypeId} {size n : Nat} {w : World} {v : Value} {xs : List Value} (h : w.ownsRow B e size v n xs) {k : Nat} (hk : v.ownBlock = some k) : k < w.heap.size := by
 obtain ⟨_, ⟨rfl, _⟩ | ⟨g, cap, cur, rfl, _, hc, _⟩⟩ := h
 ·simp [Value.ownBlock] at hk
 ·simp [Value.ownBlock] at hk
  subst hk
  exact (Array.getElem?_eq_some_iff.1 hc).1
theorem Turns.grownNew {S : Nat → Prop} {a w w' : World} {row : Option Nat} (h : Turns S a w) (hg : w.grownBy w' row) (hr : ∀ k, row = some k → a.heap.size ≤ k) : Turns S a w' :=
 ⟨hg.os.trans h.os, hg.tape.trans h.tape, hg.output.trans h.output, Nat.le_trans h.size hg.size, fun k hk hS => (hg.block k (Nat.lt_of_lt_of_le hk h.size) (fun e => by have := hr k e.symm; omega)).trans (h.block k hk hS)⟩
theorem owns_mono {B B' : Nat} {e : TypeId} {size n : Nat} {w : World} {v : Value} {xs : List Value} (h : w.ownsRow B e size v n xs) (hB : B' ≤ B) : w.ownsRow B' e size v n xs := by
 obtain ⟨h0, h1 | ⟨g, cap, cur, e, hg, h2⟩⟩ := h
 ·exact ⟨h0, .inl h1⟩
 ·exact ⟨h0, .inr ⟨g, cap, cur, e, Nat.le_trans hB hg, h2⟩⟩
theorem intCells_ones (l : List Int) : ∀ u ∈ intCells l, u.oneCell' = true := by
 intro u hu
 obtain ⟨z, _, rfl⟩ := List.mem_map.1 hu
 rfl
theorem owns_slice {B : Nat} {e : TypeId} {size n : Nat} {w : World} {v : Value} {xs : List Value} (h : w.ownsRow B e size v n xs) : ∃ a cap, v = .slice a n cap := by
 obtain ⟨_, ⟨rfl, h0⟩ | ⟨g, cap, cur, rfl, _⟩⟩ := h
 ·exact ⟨none, 0, by rw [h0]⟩
 ·exact ⟨_, _, rfl⟩
theorem owns_apart {B B' : Nat} {e e' : TypeId} {size n size' n' : Nat} {w : World} {v v' : Value} {xs xs' : List Value} (h : w.ownsRow B e size v n xs) (h' : w.ownsRow B' e' size' v' n' xs') (he : e ≠ e') {k : Nat} (hk : v.ownBlock = some k) : ¬ v'.ownBlock = some k := by
 intro hk'
 obtain ⟨_, ⟨rfl, _⟩ | ⟨g, cap, cur, rfl, _, hc, _⟩⟩ := h
 ·simp [Value.ownBlock] at hk
 ·obtain ⟨_, ⟨rfl, _⟩ | ⟨g', cap', cur', rfl, _, hc', _⟩⟩ := h'
  ·simp [Value.ownBlock] at hk'
  ·simp [Value.ownBlock] at hk hk'
   subst hk hk'
   rw [hc] at hc'
   simp at hc'
   exact he hc'.2
theorem wpList_append_own2 {P : Program} {ops : Array Oper} {rest : List Oper} {o : Oper} {a : Act} {Q : Exit → Act → World → Prop} (w : World) (hgd : o.guard = none) (s x : Operand) (t : TypeId)
  (ho : o.op = .call { callee := .builtin .append, args := #[s, x], argTypes := #[t, t] })
  (base : Nat) (e : TypeId) (i : TypeInfo) (z : Value) (size bytes : Nat) (ht : P.underlying t = some (.slice e)) (hi : P.info? e = some i) (hz : i.zero = some z)
  (hsize : i.size = size) (hby : i.bytes = bytes) (hzs : z.cells.size = size) (hsz : 0 < size)
  (v : Value) (n : Nat) (xs : List Value) (hs : a.eval s = v) (hown : w.ownsRow base e size v n xs)
  (ad : Addr) (m c : Nat) (news : List Value) (hx : a.eval x = .slice (some ad) m c) (hl : news.length = m * size) (hnews : ∀ j u, news[j]? = some u → w.cell? (ad.add j) = some u) (h1 : ∀ u ∈ news, u.oneCell' = true)
  (h63 : n + m ≤ maxLen) (hbytes : (n + m) * bytes ≤ 140737488355328) (hbase : base ≤ w.heap.size)
  (h : ∀ v' w', w'.ownsRow base e size v' (n + m) (xs ++ news) → w.grownBy w' v.ownBlock → NewRow w v v' → wpList P ops Q rest (a.put o.dst v') w') : wpList P ops Q (o :: rest) a w :=
 wpList_plain hgd fun _ hK => by
  obtain ⟨v', w', hr, q1, q2, q3⟩ := run_append_own2 (P := P) w base t o.type e i z size bytes ht hi hz hsize hby hzs hsz v n xs hown ad m c news hl hnews h1 h63 hbytes hbase
  unfold Oper.wp execOp
  simp only [ho, resolve, invoke, builtin, Sem.run_bind, Sem.run_pure, Result.andThen_ok, List.map_toArray, List.map_cons, List.map_nil, hs, hx, hr]
  exact hK _ _ (h v' w' q1 q2 q3)
abbrev put3s (w : World) (P : Nat) (v0 v1 v2 : Value) : World := ((w.setCell ⟨P, 0, none⟩ v0).setCell ⟨P, 1, none⟩ v1).setCell ⟨P, 2, none⟩ v2
theorem put3s_turns (w : World) (P : Nat) (v0 v1 v2 : Value) : Turns (fun b => b = P) w (put3s w P v0 v1 v2) :=
 ((put1_turns w P 0 v0).trans (put1_turns _ P 1 v1)).trans (put1_turns _ P 2 v2)
theorem Bk.put3s {w : World} {P : Nat} {T : TypeId} {a0 a1 a2 : Value} (h : Bk w P T #[a0, a1, a2]) (v0 v1 v2 : Value) : Bk (put3s w P v0 v1 v2) P T #[v0, v1, v2] :=
 ((h.put 0 v0).put 1 v1).put 2 v2
abbrev put7s (w : World) (P : Nat) (v0 v1 v2 v3 v4 v5 v6 : Value) : World := ((((((w.setCell ⟨P, 0, none⟩ v0).setCell ⟨P, 1, none⟩ v1).setCell ⟨P, 2, none⟩ v2).setCell ⟨P, 3, none⟩ v3).setCell ⟨P, 4, none⟩ v4).setCell ⟨P, 5, none⟩ v5).setCell ⟨P, 6, none⟩ v6
theorem put7s_turns (w : World) (P : Nat) (v0 v1 v2 v3 v4 v5 v6 : Value) : Turns (fun b => b = P) w (put7s w P v0 v1 v2 v3 v4 v5 v6) :=
 ((((((put1_turns w P 0 v0).trans (put1_turns _ P 1 v1)).trans (put1_turns _ P 2 v2)).trans (put1_turns _ P 3 v3)).trans (put1_turns _ P 4 v4)).trans (put1_turns _ P 5 v5)).trans (put1_turns _ P 6 v6)
theorem Bk.put7s {w : World} {P : Nat} {T : TypeId} {a0 a1 a2 a3 a4 a5 a6 : Value} (h : Bk w P T #[a0, a1, a2, a3, a4, a5, a6]) (v0 v1 v2 v3 v4 v5 v6 : Value) : Bk (put7s w P v0 v1 v2 v3 v4 v5 v6) P T #[v0, v1, v2, v3, v4, v5, v6] := by
 have h0 : Bk (w.setCell ⟨P, 0, none⟩ v0) P T #[v0, a1, a2, a3, a4, a5, a6] := h.put 0 v0
 have h1 : Bk ((w.setCell ⟨P, 0, none⟩ v0).setCell ⟨P, 1, none⟩ v1) P T #[v0, v1, a2, a3, a4, a5, a6] := h0.put 1 v1
 have h2 : Bk (((w.setCell ⟨P, 0, none⟩ v0).setCell ⟨P, 1, none⟩ v1).setCell ⟨P, 2, none⟩ v2) P T #[v0, v1, v2, a3, a4, a5, a6] := h1.put 2 v2
 have h3 : Bk ((((w.setCell ⟨P, 0, none⟩ v0).setCell ⟨P, 1, none⟩ v1).setCell ⟨P, 2, none⟩ v2).setCell ⟨P, 3, none⟩ v3) P T #[v0, v1, v2, v3, a4, a5, a6] := h2.put 3 v3
 have h4 : Bk (((((w.setCell ⟨P, 0, none⟩ v0).setCell ⟨P, 1, none⟩ v1).setCell ⟨P, 2, none⟩ v2).setCell ⟨P, 3, none⟩ v3).setCell ⟨P, 4, none⟩ v4) P T #[v0, v1, v2, v3, v4, a5, a6] := h3.put 4 v4
 have h5 : Bk ((((((w.setCell ⟨P, 0, none⟩ v0).setCell ⟨P, 1, none⟩ v1).setCell ⟨P, 2, none⟩ v2).setCell ⟨P, 3, none⟩ v3).setCell ⟨P, 4, none⟩ v4).setCell ⟨P, 5, none⟩ v5) P T #[v0, v1, v2, v3, v4, v5, a6] := h4.put 5 v5
 have h6 : Bk (((((((w.setCell ⟨P, 0, none⟩ v0).setCell ⟨P, 1, none⟩ v1).setCell ⟨P, 2, none⟩ v2).setCell ⟨P, 3, none⟩ v3).setCell ⟨P, 4, none⟩ v4).setCell ⟨P, 5, none⟩ v5).setCell ⟨P, 6, none⟩ v6) P T #[v0, v1, v2, v3, v4, v5, v6] := h5.put 6 v6
 exact h6
theorem Turns.sub {S S' : Nat → Prop} {w w' : World} (h : Turns S w w') (hS : ∀ k, S k → S' k) : Turns S' w w' := ⟨h.os, h.tape, h.output, h.size, fun k hk hn => h.block k hk (fun e => hn (hS k e))⟩
end Go.Proofs.YtnccenbkpocjgaaGreat

/- Append of a source that may be empty, or nil. -/
namespace Go.Proofs.YtnccenbkpocjgaaGreat
open Go.RowKit
def SrcC (w : World) (x : Value) (size m : Nat) (news : List Value) : Prop := news.length = m * size ∧ ∃ a c, x = .slice a m c ∧ (m = 0 ∨ ∃ b off, a = some ⟨b, off, none⟩ ∧ b < w.heap.size ∧ ∀ j, j < m * size → w.cell? ⟨b, off + j, none⟩ = news[j]?)
theorem SrcC.below {w w' : World} {x : Value} {size m : Nat} {news : List Value} (h : SrcC w x size m news) (hb : Below w.heap.size w w') : SrcC w' x size m news := by
 obtain ⟨hn, a, c, rfl, h⟩ := h
 refine ⟨hn, a, c, rfl, h.imp id ?_⟩
 rintro ⟨b, off, rfl, hlt, hc⟩
 exact ⟨b, off, rfl, Nat.lt_of_lt_of_le hlt hb.size, fun j hj => (hb.cell (p := ⟨b, off + j, none⟩) hlt).trans (hc j hj)⟩
theorem IsD.src {w : World} {x : Value} {c n : Nat} {cs : List Value} (h : IsD w x (flat c n cs)) (hl : cs.length = n * c) : SrcC w x c n cs := by
 obtain ⟨a, cap, rfl, h1, h2, h⟩ := IsD.parts (c := c) (n := n) h
 refine ⟨hl, a, cap, rfl, h.imp id ?_⟩
 rintro ⟨b, off, rfl, hlt, hc⟩
 refine ⟨b, off, rfl, hlt, fun j hj => ?_⟩
 obtain ⟨u, hu, hd⟩ := hc j hj
 have := IsD.val_eq hd
 subst this
 rw [hu, List.getElem?_eq_getElem (by omega)]
 simp [show j < cs.length by omega]
theorem IsD.srcI {w : World} {x : Value} {l : List Int} (h : IsD w x (intsD l)) : SrcC w x 1 l.length (intCells l) := IsD.src h (by rw [intCells_length]; omega)
theorem IsD.srcEv {w : World} {x : Value} {l : List Ev} (h : IsD w x (evsD l)) : SrcC w x 7 l.length (cellsL l) := IsD.src h (cellsL_length l)
theorem IsD.srcX {w : World} {x : Value} {l : List Em} (h : IsD w x (emsD l)) : SrcC w x 3 l.length (cellsX l) := IsD.src h (cellsX_length l)
theorem run_append_none_any {P : Program} {w : World} (base : Nat) (t ty e : TypeId) (i : TypeInfo) (size : Nat) (ht : P.underlying t = some (.slice e)) (hi : P.info? e = some i) (v : Value) (n c : Nat) (xs : List Value) (hown : w.ownsRow base e size v n xs) :
  (Builtin.append_ #[t, t] ty #[v, .slice none 0 c]).run P w = .ok v w := by
 rcases hown.2 with ⟨rfl, rfl⟩ | ⟨g, cap, cur, rfl, _, _, hnc, _⟩
 ·simp [Builtin.append_, run_underlying ht, sizeOf, typeInfo, hi, Builtin.lenOf, Builtin.firstCells]
 ·simp [Builtin.append_, run_underlying ht, sizeOf, typeInfo, hi, Builtin.lenOf, Builtin.firstCells, hnc, storeCells]
theorem step_append_src {P : Program} {ops : Array Oper} {o : Oper} {a : Act} {w : World} {K : Act → World → Prop} {Q : Exit → Act → World → Prop} {E : Prop}
  (hg : o.guard = none) (s x : Operand) (t : TypeId) (hop : o.op = Op.call { callee := Callee.builtin Builtin.append, args := #[s, x], argTypes := #[t, t] })
  (base : Nat) (e : TypeId) (i : TypeInfo) (z : Value) (size bytes : Nat) (h1 : P.underlying t = some (.slice e)) (h2 : P.info? e = some i) (h3 : i.zero = some z) (h4 : i.size = size) (h5 : i.bytes = bytes) (h6 : z.cells.size = size) (h7 : 0 < size)
  (v : Value) (n : Nat) (xs : List Value) (hs : a.eval s = v) (hown : w.ownsRow base e size v n xs)
  (u : Value) (m : Nat) (news : List Value) (hx : a.eval x = u) (hc : SrcC w u size m news) (h1c : ∀ u ∈ news, u.oneCell' = true)
  (b1 : n + m ≤ maxLen) (b2 : (n + m) * bytes ≤ 140737488355328) (hbase : base ≤ w.heap.size)
  (hK : ∀ v' w', w'.ownsRow base e size v' (n + m) (xs ++ news) → w.grownBy w' v.ownBlock → NewRow w v v' → K (a.put o.dst v') w') :
  if Region.wanted o (yielded ops a.tmps) = true then Oper.wp P o a w K Q else E := by
 obtain ⟨hn, au, c, rfl, hc⟩ := hc
 have some_case : ∀ ad : Addr, au = some ad → (∀ j u, news[j]? = some u → w.cell? (ad.add j) = some u) → (if Region.wanted o (yielded ops a.tmps) = true then Oper.wp P o a w K Q else E) := fun ad e1 e2 => by
  subst e1
  exact step_append_own2 hg s x t hop base e i z size bytes h1 h2 h3 h4 h5 h6 h7 v n xs hs hown ad m c news hx hn e2 h1c b1 b2 hbase hK
 rcases hc with rfl | ⟨b, off, rfl, hlt, hcc⟩
 ·have hnil : news = [] := List.eq_nil_of_length_eq_zero (by simpa using hn)
  subst hnil
  cases au with
  | some ad => exact some_case ad rfl (fun j u hu => by simp at hu)
  | none =>
   have hw : Region.wanted o (yielded ops a.tmps) = true := by simp [Region.wanted, hg]
   rw [if_pos hw]
   have hr := run_append_none_any (P := P) (w := w) base t o.type e i size h1 h2 v n c xs hown
   unfold Oper.wp execOp
   simp only [hop, resolve, invoke, builtin, Sem.run_bind, Sem.run_pure, Result.andThen_ok, List.map_toArray, List.map_cons, List.map_nil, hs, hx, hr]
   exact hK v w (by simpa using hown) (grown_refl w _) (.inl rfl)
 ·refine some_case ⟨b, off, none⟩ rfl (fun j u hu => ?_)
  have hj : j < m * size := by rw [← hn]; exact (List.getElem?_eq_some_iff.1 hu).1
  rw [Addr.add_lit, hcc j hj]
  exact hu
theorem wpList_append_src {P : Program} {ops : Array Oper} {rest : List Oper} {o : Oper} {a : Act} {Q : Exit → Act → World → Prop} (w : World) (hgd : o.guard = none) (s x : Operand) (t : TypeId)
  (ho : o.op = .call { callee := .builtin .append, args := #[s, x], argTypes := #[t, t] })
  (base : Nat) (e : TypeId) (i : TypeInfo) (z : Value) (size bytes : Nat) (ht : P.underlying t = some (.slice e)) (hi : P.info? e = some i) (hz : i.zero = some z)
  (hsize : i.size = size) (hby : i.bytes = bytes) (hzs : z.cells.size = size) (hsz : 0 < size)
  (v : Value) (n : Nat) (xs : List Value) (hs : a.eval s = v) (hown : w.ownsRow base e size v n xs)
  (u : Value) (m : Nat) (news : List Value) (hx : a.eval x = u) (hc : SrcC w u size m news) (h1 : ∀ u ∈ news, u.oneCell' = true)
  (h63 : n + m ≤ maxLen) (hbytes : (n + m) * bytes ≤ 140737488355328) (hbase : base ≤ w.heap.size)
  (h : ∀ v' w', w'.ownsRow base e size v' (n + m) (xs ++ news) → w.grownBy w' v.ownBlock → NewRow w v v' → wpList P ops Q rest (a.put o.dst v') w') : wpList P ops Q (o :: rest) a w := by
 obtain ⟨hn, au, c, rfl, hc⟩ := hc
 have some_case : ∀ ad : Addr, au = some ad → (∀ j u, news[j]? = some u → w.cell? (ad.add j) = some u) → wpList P ops Q (o :: rest) a w := fun ad e1 e2 => by
  subst e1
  exact wpList_append_own2 w hgd s x t ho base e i z size bytes ht hi hz hsize hby hzs hsz v n xs hs hown ad m c news hx hn e2 h1 h63 hbytes hbase h
 rcases hc with rfl | ⟨b, off, rfl, hlt, hcc⟩
 ·have hnil : news = [] := List.eq_nil_of_length_eq_zero (by simpa using hn)
  subst hnil
  cases au with
  | some ad => exact some_case ad rfl (fun j u hu => by simp at hu)
  | none =>
   refine wpList_plain hgd fun _ hK => ?_
   have hr := run_append_none_any (P := P) (w := w) base t o.type e i size ht hi v n c xs hown
   unfold Oper.wp execOp
   simp only [ho, resolve, invoke, builtin, Sem.run_bind, Sem.run_pure, Result.andThen_ok, List.map_toArray, List.map_cons, List.map_nil, hs, hx, hr]
   exact hK _ _ (h v w (by simpa using hown) (grown_refl w _) (.inl rfl))
 ·refine some_case ⟨b, off, none⟩ rfl (fun j u hu => ?_)
  have hj : j < m * size := by rw [← hn]; exact (List.getElem?_eq_some_iff.1 hu).1
  rw [Addr.add_lit, hcc j hj]
  exact hu
theorem cellsL_ones (l : List Ev) : ∀ u ∈ cellsL l, u.oneCell' = true := fun u hu => by obtain ⟨i, rfl⟩ := evs_plain l u hu; rfl
theorem cellsX_ones (l : List Em) : ∀ u ∈ cellsX l, u.oneCell' = true := fun u hu => by obtain ⟨i, rfl⟩ := ems_plain l u hu; rfl
set_option maxRecDepth 100000 in
set_option maxHeartbeats 2000000 in
theorem l1own_src (x : Value) (l : List Ev) (w : World) (hl : l.length ≤ 1048577) (h : SrcC w x 7 l.length (cellsL l)) :
  Calls Tryz.prog 58 #[x] w fun e w' => ∃ y, e = .returned y ∧ w'.ownsRow w.heap.size 55 7 y l.length (cellsL l) ∧ Below w.heap.size w w' := by
 obtain ⟨i0, hi, hz0, hz1, hz2⟩ := info_parts info25
 have hb : Below w.heap.size w (w.alloc (.cells #[] 55)) := (Below.refl _ w).alloc (Nat.le_refl _) _
 have HS : Hid (SrcC (w.alloc (.cells #[] 55)) x 7 l.length (cellsL l)) := h.below hb
 have HB : Hid (Below w.heap.size w (w.alloc (.cells #[] 55))) := hb
 obtain ⟨_, a, c, rfl, _⟩ := h
 clear hb
 go_enter Tryz.func58, Tryz.ntmps58
 go_wp2_with (at_builtin; refine wpList_append_src _ rfl _ _ 31 rfl w.heap.size 55 i0 _ 7 56 Tryz.underlying31 hi hz0 hz1 hz2 rfl (by decide) (.slice (some ⟨w.heap.size, 0, none⟩) 0 0) 0 [] rfl (row_empty w) (.slice a l.length c) l.length (cellsL l) rfl HS.out (cellsL_ones l) (by unfold maxLen; omega) (by omega) (by simp) ?_; intro v' w' hown hgrow hnew)
 go_ret
 rw [Nat.zero_add, List.nil_append] at hown
 exact ⟨_, rfl, hown, HB.out.grown hgrow (by simp) (fun k e => by cases e; exact Nat.le_refl _)⟩
end Go.Proofs.YtnccenbkpocjgaaGreat

/- Rows of one's own: what is copied into them, cleared, shifted. -/
namespace Go.Proofs.YtnccenbkpocjgaaGreat
open Go.RowKit
theorem owns_block {w : World} {B : Nat} {e : TypeId} {size n cap g : Nat} {xs : List Value} (h : w.ownsRow B e size (.slice (some ⟨g, 0, none⟩) n cap) n xs) : ∃ cur : Array Value, w.heap[g]? = some (.cells cur e (0, 0)) ∧ B ≤ g ∧ n ≤ cap ∧ cap ≤ maxLen ∧ cur.size = cap * size ∧ cur.toList.take (n * size) = xs := by
 rcases h.2 with ⟨h', _⟩ | ⟨g', cap', cur, h', h1, h2, h3, h4, h5, h6⟩
 ·cases h'
 ·cases h'
  exact ⟨cur, h2, h1, h3, h4, h5, h6⟩
end Go.Proofs.YtnccenbkpocjgaaGreat

/- Slices that are cut. -/
namespace Go.Proofs.YtnccenbkpocjgaaGreat
open Go.RowKit
theorem infoSle : (Tryz.prog.info? 55).map (fun i => (i.zero, i.size, i.bytes)) = some (some (.agg #[.int .i64 0, .int .i64 0, .int .i64 0, .int .i64 0, .int .i64 0, .int .i64 0, .int .i64 0]), 7, 56) := by kernel_rfl
end Go.Proofs.YtnccenbkpocjgaaGreat

