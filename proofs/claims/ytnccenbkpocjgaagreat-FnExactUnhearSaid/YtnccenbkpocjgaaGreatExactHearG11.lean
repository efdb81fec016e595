/- TPtM, PLib, PApp, PGrow, PPst, RegZ, POwS -/
import Derived.Test.YtnccenbkpocjgaaGreatExactHearG08
import Derived.Test.YtnccenbkpocjgaaGreatExactHearLTPsE
import Derived.Test.YtnccenbkpocjgaaGreatExactHearLTPsF
import Derived.Test.YtnccenbkpocjgaaGreatExactHearG01
import Derived.Test.YtnccenbkpocjgaaGreatExactHearG04
import Derived.Test.YtnccenbkpocjgaaGreatExactHearG03
import Derived.Test.YtnccenbkpocjgaaGreatExactHearG02
import Derived.Test.YtnccenbkpocjgaaGreatExactHearG05
import Derived.Laws.OwnMore
import Derived.Deep.Cut
import Derived.Deep.CutBlock
import Derived.Deep.RegionHeld3
import Derived.ArgAppend
import Derived.Test.YtnccenbkpocjgaaGreatRows
import Derived.OrdersHeld
import Derived.Deep.RegionHeld
/- markPart, heldPart. -/
namespace Go.Proofs.YtnccenbkpocjgaaGreat
open Go.RowKit
theorem hidTPtM {p : Prop} (h : p) : Hid p := h
set_option maxHeartbeats 2000000 in
theorem markState_D {F : Nat → Prop} {u : Value} {s : St} {w : World} (z : Int) (hs : s.r.length ≤ 1048577) (hz0 : 0 ≤ z) (hz1 : z ≤ 1073741824) (h : OwnD w F u (intsD s.r)) :
  Calls Tryz.prog 47 #[.agg #[u, .int .i64 s.q, .int .i64 s.d], .int .i64 z] w fun e w' => e = .returned (.int .i64 (z + ((intsD s.r).cnt : Int))) ∧ OwnD w' F u ((intsD s.r).mark z) ∧ Turns F w w' := by
 have HI := hidTPtM h
 clear h
 obtain ⟨W0, hW0⟩ : ∃ W0, w.alloc (.cells #[u, .int .i64 s.q, .int .i64 s.d] 29) = W0 := ⟨_, rfl⟩
 have HB0 : Hid (Below w.heap.size w W0) := by rw [← hW0]; exact (Below.refl _ w).alloc (Nat.le_refl _) _
 have HP0 : Hid (Bk W0 w.heap.size 29 #[u, .int .i64 s.q, .int .i64 s.d]) := by rw [← hW0]; exact Bk.new w _ _
 have p0 := HP0.out.cell (i := 0) rfl
 go_enter Tryz.func47, Tryz.ntmps47
 go_wp2_with fail
 clear p0 hW0
 refine (mark_ints (F := F) (l := s.r) z hs hz0 hz1 (HI.out.under HB0.out)).mono ?_
 rintro e w1 ⟨rfl, hr, ht⟩
 go_wp2
 go_ret
 exact ⟨rfl, hr, (Turns.of_below HB0.out).trans ht⟩
set_option maxHeartbeats 2000000 in
theorem heldState_D {F : Nat → Prop} {u : Value} {s : St} {w : World} (z : Int) (hs : s.r.length ≤ 1048577) (hz0 : 0 ≤ z) (hz1 : z ≤ 1073741824) (h : OwnD w F u ((intsD s.r).mark z)) :
  Calls Tryz.prog 49 #[.agg #[u, .int .i64 s.q, .int .i64 s.d], .int .i64 z] w fun e w' => e = .returned (.int .i64 (z + ((intsD s.r).cnt : Int))) ∧ Below w.heap.size w w' := by
 have HI := hidTPtM h
 clear h
 obtain ⟨W0, hW0⟩ : ∃ W0, w.alloc (.cells #[u, .int .i64 s.q, .int .i64 s.d] 29) = W0 := ⟨_, rfl⟩
 have HB0 : Hid (Below w.heap.size w W0) := by rw [← hW0]; exact (Below.refl _ w).alloc (Nat.le_refl _) _
 have HP0 : Hid (Bk W0 w.heap.size 29 #[u, .int .i64 s.q, .int .i64 s.d]) := by rw [← hW0]; exact Bk.new w _ _
 have p0 := HP0.out.cell (i := 0) rfl
 have n1 : ¬ (z + ((intsD s.r).cnt : Int) < 0) := by omega
 go_enter Tryz.func49, Tryz.ntmps49
 go_wp2_with fail
 clear p0 hW0
 refine (held_ints (F := F) (l := s.r) z hs hz0 hz1 (HI.out.under HB0.out)).mono ?_
 rintro e w1 ⟨rfl, hb⟩
 have HB1 := hidTPtM (HB0.out.trans (hb.mono HB0.out.size))
 clear hb
 go_wp2
 go_ret
 exact ⟨rfl, HB1.out⟩
def HeldPart (F : Nat → Prop) (w : World) (y : Value) (p : Pa) (z : Int) : Prop :=
 ∃ (A1 A4 A5 A6 : Nat → Prop) (u1 u4 u5 u6 : Value), y = .agg #[.int .i64 p.n, u1, .int .i64 p.st.q, .int .i64 p.st.d, u4, u5, u6] ∧ OwnD w A1 u1 ((intsD p.st.r).mark (z)) ∧ OwnD w A4 u4 ((pastsD p.p).mark (z + ((intsD p.st.r).cnt : Int))) ∧ OwnD w A5 u5 ((evsD p.t).mark (z + ((intsD p.st.r).cnt : Int) + ((pastsD p.p).cnt : Int))) ∧ OwnD w A6 u6 ((intsD p.a).mark (z + ((intsD p.st.r).cnt : Int) + ((pastsD p.p).cnt : Int) + ((evsD p.t).cnt : Int))) ∧ (∀ k, A1 k → F k ∧ ¬ A4 k ∧ ¬ A5 k ∧ ¬ A6 k) ∧ (∀ k, A4 k → F k ∧ ¬ A5 k ∧ ¬ A6 k) ∧ (∀ k, A5 k → F k ∧ ¬ A6 k) ∧ (∀ k, A6 k → F k)
theorem HeldPart.turns {F S : Nat → Prop} {w w' : World} {y : Value} {p : Pa} {z : Int} (h : HeldPart F w y p z) (ht : Turns S w w') (hS : ∀ k, F k → ¬ S k) : HeldPart F w' y p z := by
 obtain ⟨A1, A4, A5, A6, u1, u4, u5, u6, rfl, h1, h4, h5, h6, d1, d4, d5, d6⟩ := h
 exact ⟨A1, A4, A5, A6, u1, u4, u5, u6, rfl, h1.turns ht (fun k hk => hS k (d1 k hk).1), h4.turns ht (fun k hk => hS k (d4 k hk).1), h5.turns ht (fun k hk => hS k (d5 k hk).1), h6.turns ht (fun k hk => hS k (d6 k hk)), d1, d4, d5, d6⟩
def Pa.cntA (p : Pa) : Nat := (intsD p.st.r).cnt + (pastsD p.p).cnt + (evsD p.t).cnt + (intsD p.a).cnt
theorem Pa.cntA_le (p : Pa) : p.cntA ≤ 40 * p.wt := by
 have t1 := Dat.cnt_le (ints_thin p.st.r)
 have t4 := Dat.cnt_le (pasts_thin p.p)
 have t5 := Dat.cnt_le (evs_thin p.t)
 have t6 := Dat.cnt_le (ints_thin p.a)
 have t1 : (intsD p.st.r).cnt ≤ 40 * (intsD p.st.r).wt := t1
 have t4 : (pastsD p.p).cnt ≤ 40 * (pastsD p.p).wt := t4
 have t5 : (evsD p.t).cnt ≤ 40 * (evsD p.t).wt := t5
 have t6 : (intsD p.a).cnt ≤ 40 * (intsD p.a).wt := t6
 unfold Pa.cntA Pa.wt
 omega
set_option maxRecDepth 100000 in
set_option maxHeartbeats 8000000 in
theorem markPart_any {F : Nat → Prop} {x : Value} {p : Pa} {w : World} (z : Int) (hn : p.wt ≤ 1048577) (hz0 : 0 ≤ z) (hz1 : z + (p.cntA : Int) ≤ 1073741824) (h : PartF F w x p) :
  Calls Tryz.prog 14 #[x, .int .i64 z] w fun e w' => e = .returned (.int .i64 (z + (p.cntA : Int))) ∧ HeldPart F w' x p z ∧ Turns F w w' := by
 obtain ⟨A1, A4, A5, A6, u1, u4, u5, u6, rfl, h1, h4, h5, h6, d1, d4, d5, d6⟩ := h
 have HN : Hid (p.wt ≤ 1048577) := hn
 have hc : p.cntA = (intsD p.st.r).cnt + (pastsD p.p).cnt + (evsD p.t).cnt + (intsD p.a).cnt := rfl
 rw [hc] at hz1 ⊢
 have HZ := hidTPtM hz1
 have hwt := hn
 unfold Pa.wt at hwt
 simp only [evs_wt, ints_wt] at hwt
 have O1 := hidTPtM h1.live
 have D1 := hidTPtM d1
 have O4 := hidTPtM h4.live
 have D4 := hidTPtM d4
 have O5 := hidTPtM h5.live
 have D5 := hidTPtM d5
 have O6 := hidTPtM h6.live
 have D6 : Hid (∀ k, A6 k → F k) := d6
 clear hn hz1 hc h1 d1 h4 d4 h5 d5 h6 d6
 obtain ⟨W0, hW0⟩ : ∃ W0, w.alloc (.cells #[.int .i64 p.n, u1, .int .i64 p.st.q, .int .i64 p.st.d, u4, u5, u6] 33) = W0 := ⟨_, rfl⟩
 have HB0 : Hid (Below w.heap.size w W0) := by rw [← hW0]; exact (Below.refl _ w).alloc (Nat.le_refl _) _
 have HP0 : Hid (Bk W0 w.heap.size 33 #[.int .i64 p.n, u1, .int .i64 p.st.q, .int .i64 p.st.d, u4, u5, u6]) := by rw [← hW0]; exact Bk.new w _ _
 have HT0 : Hid (Turns F w W0) := Turns.of_below HB0.out
 have HW := hidTPtM hW0
 clear hW0
 have O1' : Hid (OwnD W0 (fun k => A1 k ∧ k < w.heap.size) u1 (intsD p.st.r)) := O1.out.under HB0.out
 clear O1
 have O1 := O1'
 clear O1'
 have O4' : Hid (OwnD W0 (fun k => A4 k ∧ k < w.heap.size) u4 (pastsD p.p)) := O4.out.under HB0.out
 clear O4
 have O4 := O4'
 clear O4'
 have O5' : Hid (OwnD W0 (fun k => A5 k ∧ k < w.heap.size) u5 (evsD p.t)) := O5.out.under HB0.out
 clear O5
 have O5 := O5'
 clear O5'
 have O6' : Hid (OwnD W0 (fun k => A6 k ∧ k < w.heap.size) u6 (intsD p.a)) := O6.out.under HB0.out
 clear O6
 have O6 := O6'
 clear O6'
 go_enter Tryz.func14, Tryz.ntmps14
 have p1 := HP0.out.cell (i := 1) rfl
 have p2 := HP0.out.cell (i := 2) rfl
 have p3 := HP0.out.cell (i := 3) rfl
 have b1 : z ≤ 1073741824 := by have := HZ.out; omega
 go_wp2_with fail
 rw [HW.out]
 clear HW
 clear p1 p2 p3
 refine (markState_D (F := fun k => A1 k ∧ k < w.heap.size) (s := p.st) z (by omega) hz0 b1 O1.out).mono ?_
 rintro e w1 ⟨rfl, hr, ht⟩
 have M1 := hidTPtM hr
 have HP1 := hidTPtM (HP0.out.turns ht (fun e => by omega))
 have HT1 : Hid (Turns F w w1) := HT0.out.trans (ht.mono (fun k e => (D1.out k e.1).1))
 have O4' : Hid (OwnD w1 (fun k => A4 k ∧ k < w.heap.size) u4 (pastsD p.p)) := O4.out.turns ht (fun k e e' => (D1.out k e'.1).2.1 e.1)
 clear O4
 have O4 := O4'
 clear O4'
 have O5' : Hid (OwnD w1 (fun k => A5 k ∧ k < w.heap.size) u5 (evsD p.t)) := O5.out.turns ht (fun k e e' => (D1.out k e'.1).2.2.1 e.1)
 clear O5
 have O5 := O5'
 clear O5'
 have O6' : Hid (OwnD w1 (fun k => A6 k ∧ k < w.heap.size) u6 (intsD p.a)) := O6.out.turns ht (fun k e e' => (D1.out k e'.1).2.2.2 e.1)
 clear O6
 have O6 := O6'
 clear O6'
 clear hr ht
 obtain ⟨y1, hy⟩ : ∃ y1 : Int, y1 = z + ((intsD p.st.r).cnt : Int) := ⟨_, rfl⟩
 have HY1 : Hid (y1 = z + ((intsD p.st.r).cnt : Int)) := by exact hy
 have y10 : 0 ≤ y1 := by omega
 rw [← hy]
 clear hy
 have p4 := HP1.out.cell (i := 4) rfl
 have b4 : y1 ≤ 1073741824 := by have := HZ.out; have := HY1.out; omega
 go_wp2_with fail
 clear p4
 refine (mark_pasts (F := fun k => A4 k ∧ k < w.heap.size) (l := p.p) y1 (by omega) y10 (by have := HZ.out; have := HY1.out; omega) O4.out).mono ?_
 rintro e w2 ⟨rfl, hr, ht⟩
 have M4 := hidTPtM hr
 have HP2 := hidTPtM (HP1.out.turns ht (fun e => by omega))
 have HT2 : Hid (Turns F w w2) := HT1.out.trans (ht.mono (fun k e => (D4.out k e.1).1))
 have M1' : Hid (OwnD w2 (fun k => A1 k ∧ k < w.heap.size) u1 ((intsD p.st.r).mark z)) := M1.out.turns ht (fun k e e' => (D1.out k e.1).2.1 e'.1)
 clear M1
 have M1 := M1'
 clear M1'
 have O5' : Hid (OwnD w2 (fun k => A5 k ∧ k < w.heap.size) u5 (evsD p.t)) := O5.out.turns ht (fun k e e' => (D4.out k e'.1).2.1 e.1)
 clear O5
 have O5 := O5'
 clear O5'
 have O6' : Hid (OwnD w2 (fun k => A6 k ∧ k < w.heap.size) u6 (intsD p.a)) := O6.out.turns ht (fun k e e' => (D4.out k e'.1).2.2 e.1)
 clear O6
 have O6 := O6'
 clear O6'
 clear hr ht
 obtain ⟨y2, hy⟩ : ∃ y2 : Int, y2 = y1 + ((pastsD p.p).cnt : Int) := ⟨_, rfl⟩
 have HY2 : Hid (y2 = z + ((intsD p.st.r).cnt : Int) + ((pastsD p.p).cnt : Int)) := by have := HY1.out; show y2 = _; omega
 have y20 : 0 ≤ y2 := by omega
 rw [← hy]
 clear hy
 have p5 := HP2.out.cell (i := 5) rfl
 have b5 : y2 ≤ 1073741824 := by have := HZ.out; have := HY2.out; omega
 go_wp2_with fail
 clear p5
 refine (mark_evs (F := fun k => A5 k ∧ k < w.heap.size) (l := p.t) y2 (by omega) y20 b5 O5.out).mono ?_
 rintro e w3 ⟨rfl, hr, ht⟩
 have M5 := hidTPtM hr
 have HP3 := hidTPtM (HP2.out.turns ht (fun e => by omega))
 have HT3 : Hid (Turns F w w3) := HT2.out.trans (ht.mono (fun k e => (D5.out k e.1).1))
 have M1' : Hid (OwnD w3 (fun k => A1 k ∧ k < w.heap.size) u1 ((intsD p.st.r).mark z)) := M1.out.turns ht (fun k e e' => (D1.out k e.1).2.2.1 e'.1)
 clear M1
 have M1 := M1'
 clear M1'
 have M4' : Hid (OwnD w3 (fun k => A4 k ∧ k < w.heap.size) u4 ((pastsD p.p).mark y1)) := M4.out.turns ht (fun k e e' => (D4.out k e.1).2.1 e'.1)
 clear M4
 have M4 := M4'
 clear M4'
 have O6' : Hid (OwnD w3 (fun k => A6 k ∧ k < w.heap.size) u6 (intsD p.a)) := O6.out.turns ht (fun k e e' => (D5.out k e'.1).2 e.1)
 clear O6
 have O6 := O6'
 clear O6'
 clear hr ht
 obtain ⟨y3, hy⟩ : ∃ y3 : Int, y3 = y2 + ((evsD p.t).cnt : Int) := ⟨_, rfl⟩
 have HY3 : Hid (y3 = z + ((intsD p.st.r).cnt : Int) + ((pastsD p.p).cnt : Int) + ((evsD p.t).cnt : Int)) := by have := HY2.out; show y3 = _; omega
 have y30 : 0 ≤ y3 := by omega
 rw [← hy]
 clear hy
 have p6 := HP3.out.cell (i := 6) rfl
 have b6 : y3 ≤ 1073741824 := by have := HZ.out; have := HY3.out; omega
 go_wp2_with fail
 clear p6
 refine (mark_ints (F := fun k => A6 k ∧ k < w.heap.size) (l := p.a) y3 (by omega) y30 b6 O6.out).mono ?_
 rintro e w4 ⟨rfl, hr, ht⟩
 have M6 := hidTPtM hr
 have HP4 := hidTPtM (HP3.out.turns ht (fun e => by omega))
 have HT4 : Hid (Turns F w w4) := HT3.out.trans (ht.mono (fun k e => (D6.out k e.1)))
 have M1' : Hid (OwnD w4 (fun k => A1 k ∧ k < w.heap.size) u1 ((intsD p.st.r).mark z)) := M1.out.turns ht (fun k e e' => (D1.out k e.1).2.2.2 e'.1)
 clear M1
 have M1 := M1'
 clear M1'
 have M4' : Hid (OwnD w4 (fun k => A4 k ∧ k < w.heap.size) u4 ((pastsD p.p).mark y1)) := M4.out.turns ht (fun k e e' => (D4.out k e.1).2.2 e'.1)
 clear M4
 have M4 := M4'
 clear M4'
 have M5' : Hid (OwnD w4 (fun k => A5 k ∧ k < w.heap.size) u5 ((evsD p.t).mark y2)) := M5.out.turns ht (fun k e e' => (D5.out k e.1).2 e'.1)
 clear M5
 have M5 := M5'
 clear M5'
 clear hr ht
 obtain ⟨y4, hy⟩ : ∃ y4 : Int, y4 = y3 + ((intsD p.a).cnt : Int) := ⟨_, rfl⟩
 have HY4 : Hid (y4 = z + ((intsD p.st.r).cnt : Int) + ((pastsD p.p).cnt : Int) + ((evsD p.t).cnt : Int) + ((intsD p.a).cnt : Int)) := by have := HY3.out; show y4 = _; omega
 have y40 : 0 ≤ y4 := by omega
 rw [← hy]
 clear hy
 go_wp2
 go_ret
 refine ⟨ret_int (by have := HY4.out; omega), ⟨(fun k => A1 k ∧ k < w.heap.size), (fun k => A4 k ∧ k < w.heap.size), (fun k => A5 k ∧ k < w.heap.size), (fun k => A6 k ∧ k < w.heap.size), _, _, _, _, rfl, M1.out, (by rw [← HY1.out]; exact M4.out), (by rw [← HY2.out]; exact M5.out), (by rw [← HY3.out]; exact M6.out), fun k e => ⟨(D1.out k e.1).1, fun e' => (D1.out k e.1).2.1 e'.1, fun e' => (D1.out k e.1).2.2.1 e'.1, fun e' => (D1.out k e.1).2.2.2 e'.1⟩, fun k e => ⟨(D4.out k e.1).1, fun e' => (D4.out k e.1).2.1 e'.1, fun e' => (D4.out k e.1).2.2 e'.1⟩, fun k e => ⟨(D5.out k e.1).1, fun e' => (D5.out k e.1).2 e'.1⟩, fun k e => D6.out k e.1⟩, HT4.out⟩
set_option maxRecDepth 100000 in
set_option maxHeartbeats 8000000 in
theorem heldPart_any {F : Nat → Prop} {x : Value} {p : Pa} {w : World} (z : Int) (hn : p.wt ≤ 1048577) (hz0 : 0 ≤ z) (hz1 : z + (p.cntA : Int) ≤ 1073741824) (h : HeldPart F w x p z) :
  Calls Tryz.prog 15 #[x, .int .i64 z] w fun e w' => e = .returned (.int .i64 (z + (p.cntA : Int))) ∧ Below w.heap.size w w' := by
 obtain ⟨A1, A4, A5, A6, u1, u4, u5, u6, rfl, h1, h4, h5, h6, _, _, _, _⟩ := h
 have hc : p.cntA = (intsD p.st.r).cnt + (pastsD p.p).cnt + (evsD p.t).cnt + (intsD p.a).cnt := rfl
 rw [hc] at hz1 ⊢
 have HZ := hidTPtM hz1
 have hwt := hn
 unfold Pa.wt at hwt
 simp only [evs_wt, ints_wt] at hwt
 have O1 := hidTPtM h1
 have O4 := hidTPtM h4
 have O5 := hidTPtM h5
 have O6 := hidTPtM h6
 clear hn hz1 hc h1 h4 h5 h6
 obtain ⟨W0, hW0⟩ : ∃ W0, w.alloc (.cells #[.int .i64 p.n, u1, .int .i64 p.st.q, .int .i64 p.st.d, u4, u5, u6] 33) = W0 := ⟨_, rfl⟩
 have HB0 : Hid (Below w.heap.size w W0) := by rw [← hW0]; exact (Below.refl _ w).alloc (Nat.le_refl _) _
 have HP0 : Hid (Bk W0 w.heap.size 33 #[.int .i64 p.n, u1, .int .i64 p.st.q, .int .i64 p.st.d, u4, u5, u6]) := by rw [← hW0]; exact Bk.new w _ _
 have HW := hidTPtM hW0
 clear hW0
 go_enter Tryz.func15, Tryz.ntmps15
 have p1 := HP0.out.cell (i := 1) rfl
 have p2 := HP0.out.cell (i := 2) rfl
 have p3 := HP0.out.cell (i := 3) rfl
 have b1 : z ≤ 1073741824 := by have := HZ.out; omega
 go_wp2_with fail
 rw [HW.out]
 clear HW
 clear p1 p2 p3
 refine (heldState_D (F := A1) (s := p.st) z (by omega) hz0 b1 (O1.out.under HB0.out)).mono ?_
 rintro e w1 ⟨rfl, hb⟩
 have HB1 := hidTPtM (HB0.out.trans (hb.mono HB0.out.size))
 have HP1 := hidTPtM (HP0.out.below hb)
 clear hb
 obtain ⟨y1, hy⟩ : ∃ y1 : Int, y1 = z + ((intsD p.st.r).cnt : Int) := ⟨_, rfl⟩
 have HY1 : Hid (y1 = z + ((intsD p.st.r).cnt : Int)) := by exact hy
 have y10 : 0 ≤ y1 := by omega
 have y12 : ¬ (y1 < 0) := by omega
 rw [← hy]
 clear hy
 have p4 := HP1.out.cell (i := 4) rfl
 have b4 : y1 ≤ 1073741824 := by have := HZ.out; have := HY1.out; omega
 go_wp2_with fail
 clear p4
 refine (held_pasts (F := A4) (l := p.p) y1 (by omega) y10 (by have := HZ.out; have := HY1.out; omega) (by rw [HY1.out]; exact O4.out.under HB1.out)).mono ?_
 rintro e w2 ⟨rfl, hb⟩
 have HB2 := hidTPtM (HB1.out.trans (hb.mono HB1.out.size))
 have HP2 := hidTPtM (HP1.out.below hb)
 clear hb
 obtain ⟨y2, hy⟩ : ∃ y2 : Int, y2 = y1 + ((pastsD p.p).cnt : Int) := ⟨_, rfl⟩
 have HY2 : Hid (y2 = z + ((intsD p.st.r).cnt : Int) + ((pastsD p.p).cnt : Int)) := by have := HY1.out; show y2 = _; omega
 have y20 : 0 ≤ y2 := by omega
 have y22 : ¬ (y2 < 0) := by omega
 rw [← hy]
 clear hy
 have p5 := HP2.out.cell (i := 5) rfl
 have b5 : y2 ≤ 1073741824 := by have := HZ.out; have := HY2.out; omega
 go_wp2_with fail
 clear p5
 refine (held_evs (F := A5) (l := p.t) y2 (by omega) y20 b5 (by rw [HY2.out]; exact O5.out.under HB2.out)).mono ?_
 rintro e w3 ⟨rfl, hb⟩
 have HB3 := hidTPtM (HB2.out.trans (hb.mono HB2.out.size))
 have HP3 := hidTPtM (HP2.out.below hb)
 clear hb
 obtain ⟨y3, hy⟩ : ∃ y3 : Int, y3 = y2 + ((evsD p.t).cnt : Int) := ⟨_, rfl⟩
 have HY3 : Hid (y3 = z + ((intsD p.st.r).cnt : Int) + ((pastsD p.p).cnt : Int) + ((evsD p.t).cnt : Int)) := by have := HY2.out; show y3 = _; omega
 have y30 : 0 ≤ y3 := by omega
 have y32 : ¬ (y3 < 0) := by omega
 rw [← hy]
 clear hy
 have p6 := HP3.out.cell (i := 6) rfl
 have b6 : y3 ≤ 1073741824 := by have := HZ.out; have := HY3.out; omega
 go_wp2_with fail
 clear p6
 refine (held_ints (F := A6) (l := p.a) y3 (by omega) y30 b6 (by rw [HY3.out]; exact O6.out.under HB3.out)).mono ?_
 rintro e w4 ⟨rfl, hb⟩
 have HB4 := hidTPtM (HB3.out.trans (hb.mono HB3.out.size))
 have HP4 := hidTPtM (HP3.out.below hb)
 clear hb
 obtain ⟨y4, hy⟩ : ∃ y4 : Int, y4 = y3 + ((intsD p.a).cnt : Int) := ⟨_, rfl⟩
 have HY4 : Hid (y4 = z + ((intsD p.st.r).cnt : Int) + ((pastsD p.p).cnt : Int) + ((evsD p.t).cnt : Int) + ((intsD p.a).cnt : Int)) := by have := HY3.out; show y4 = _; omega
 have y40 : 0 ≤ y4 := by omega
 have y42 : ¬ (y4 < 0) := by omega
 rw [← hy]
 clear hy
 go_wp2
 go_ret
 exact ⟨ret_int (by have := HY4.out; omega), HB4.out⟩
end Go.Proofs.YtnccenbkpocjgaaGreat

/- General lemmas: what is owned, what is put, appends. -/
namespace Go.Proofs.YtnccenbkpocjgaaGreat
open Go.RowKit
def NewRow (w : World) (v v' : Value) : Prop := v'.ownBlock = v.ownBlock ∨ ∀ k, v'.ownBlock = some k → w.heap.size ≤ k
theorem run_append_own2 {P : Program} (w : World) (base : Nat) (t ty e : TypeId) (i : TypeInfo) (z : Value) (size bytes : Nat) (ht : P.underlying t = some (.slice e)) (hi : P.info? e = some i) (hz : i.zero = some z) (hsize : i.size = size) (hby : i.bytes = bytes) (hzs : z.cells.size = size) (hsz : 0 < size)
  (v : Value) (n : Nat) (xs : List Value) (hown : w.ownsRow base e size v n xs) (ad : Addr) (m c : Nat) (news : List Value) (hl : news.length = m * size) (hnews : ∀ j u, news[j]? = some u → w.cell? (ad.add j) = some u) (h1 : ∀ u ∈ news, u.oneCell' = true)
  (h63 : n + m ≤ maxLen) (hbytes : (n + m) * bytes ≤ 140737488355328) (hbase : base ≤ w.heap.size) :
  ∃ v' w', (Builtin.append_ #[t, t] ty #[v, .slice (some ad) m c]).run P w = .ok v' w' ∧ w'.ownsRow base e size v' (n + m) (xs ++ news) ∧ w.grownBy w' v.ownBlock ∧ NewRow w v v' := by
 obtain ⟨v', w', hr, h2, h3, _⟩ := run_append_own (P := P) w base t ty e i z size bytes ht hi hz hsize hby hzs hsz v n xs hown ad m c news hl hnews h1 h63 hbytes hbase
 refine ⟨v', w', hr, h2, h3, ?_⟩
 have hown' := hown
 obtain ⟨_, ⟨rfl, h0⟩ | ⟨g, cap, cur, rfl, hg, hc, hnc, hcm, hcs, htk⟩⟩ := hown
 ·right
  obtain ⟨v2, w2, hr2, r1, _⟩ := run_append_own (P := P) w w.heap.size t ty e i z size bytes ht hi hz hsize hby hzs hsz (.slice none 0 0) n xs ⟨hown'.1, .inl ⟨rfl, h0⟩⟩ ad m c news hl hnews h1 h63 hbytes (Nat.le_refl _)
  rw [hr] at hr2
  cases hr2
  exact fun k e => (World.ownsRow.lt r1 k e).1
 ·by_cases hroom : n + m ≤ cap
  ·left
   obtain ⟨w2, hr2, _⟩ := run_append_fits (P := P) w base t ty e i size ht hi hsize g n cap xs hown' ad m c news hl hnews h1 hroom
   rw [hr] at hr2
   cases hr2
   rfl
  ·right
   obtain ⟨v2, w2, hr2, r1, _⟩ := run_append_arg_grows (P := P) w t ty e i z size bytes ht hi hz hsize hby hzs hsz ⟨g, 0, none⟩ n cap xs hown'.1 (World.ownsRow.cells hown' rfl) ad m c news hl hnews (by omega) h63 hbytes
   rw [hr] at hr2
   cases hr2
   exact fun k e => (World.ownsRow.lt r1 k e).1
theorem step_append_own2 {P : Program} {ops : Array Oper} {o : Oper} {a : Act} {w : World} {K : Act → World → Prop} {Q : Exit → Act → World → Prop} {E : Prop}
  (hg : o.guard = none) (s x : Operand) (t : TypeId) (hop : o.op = Op.call { callee := Callee.builtin Builtin.append, args := #[s, x], argTypes := #[t, t] })
  (base : Nat) (e : TypeId) (i : TypeInfo) (z : Value) (size bytes : Nat) (h1 : P.underlying t = some (.slice e)) (h2 : P.info? e = some i) (h3 : i.zero = some z) (h4 : i.size = size) (h5 : i.bytes = bytes) (h6 : z.cells.size = size) (h7 : 0 < size)
  (v : Value) (n : Nat) (xs : List Value) (hs : a.eval s = v) (hown : w.ownsRow base e size v n xs)
  (ad : Addr) (m c : Nat) (news : List Value) (hx : a.eval x = .slice (some ad) m c) (hn : news.length = m * size) (hc : ∀ j u, news[j]? = some u → w.cell? (ad.add j) = some u) (h1c : ∀ u ∈ news, u.oneCell' = true)
  (b1 : n + m ≤ maxLen) (b2 : (n + m) * bytes ≤ 140737488355328) (hbase : base ≤ w.heap.size)
  (hK : ∀ v' w', w'.ownsRow base e size v' (n + m) (xs ++ news) → w.grownBy w' v.ownBlock → NewRow w v v' → K (a.put o.dst v') w') :
  if Region.wanted o (yielded ops a.tmps) = true then Oper.wp P o a w K Q else E := by
 have hw : Region.wanted o (yielded ops a.tmps) = true := by simp [Region.wanted, hg]
 rw [if_pos hw]
 obtain ⟨v', w', hr, q1, q2, q3⟩ := run_append_own2 (P := P) w base t o.type e i z size bytes h1 h2 h3 h4 h5 h6 h7 v n xs hown ad m c news hn hc h1c b1 b2 hbase
 unfold Oper.wp execOp
 simp only [hop, resolve, invoke, builtin, Sem.run_bind, Sem.run_pure, Result.andThen_ok, List.map_toArray, List.map_cons, List.map_nil, hs, hx, hr]
 exact hK v' w' q1 q2 q3
theorem own_rowF {B : Nat} {T : TypeId} {w : World} {x : Value} {n c : Nat} {cs : List Value} (hcs : cs.length = n * c) (h : w.ownsRow B T c x n cs) : RowF (fun k => x.ownBlock = some k) w x n c cs := by
 obtain ⟨hl, ⟨rfl, h0⟩ | ⟨g, cap, cur, rfl, hg, hc, h1, h2, h3, h4⟩⟩ := h
 ·exact ⟨hcs, none, 0, by rw [h0], by omega, by unfold maxLen; omega, .inl h0⟩
 ·have hlt : g < w.heap.size := (Array.getElem?_eq_some_iff.1 hc).1
  refine ⟨hcs, _, cap, rfl, h1, h2, .inr ⟨g, rfl, rfl, hlt, fun j hj => ?_⟩⟩
  have hj2 : j < cur.size := by rw [h3]; exact Nat.lt_of_lt_of_le hj (Nat.mul_le_mul_right c h1)
  refine ⟨?_, by simp [World.frozen?, hc]⟩
  rw [← h4, List.getElem?_take_of_lt (by omega)]
  simp [World.cell?, hc]
theorem owns_same {w w' : World} {B : Nat} {v : Value} {T : TypeId} {c n : Nat} {cs : List Value} (h : w.ownsRow B T c v n cs) (hb : ∀ k, v.ownBlock = some k → w'.heap[k]? = w.heap[k]?) : w'.ownsRow B T c v n cs := by
 obtain ⟨h0, ⟨e, h1⟩ | ⟨g, cap, cur, rfl, hg, hc, h1⟩⟩ := h
 ·exact ⟨h0, .inl ⟨e, h1⟩⟩
 ·exact ⟨h0, .inr ⟨g, cap, cur, rfl, hg, (hb g rfl).trans hc, h1⟩⟩
theorem owns_turns {S : Nat → Prop} {w w' : World} {B : Nat} {v : Value} {T : TypeId} {c n : Nat} {cs : List Value} (h : w.ownsRow B T c v n cs) (ht : Turns S w w') (hS : ∀ k, v.ownBlock = some k → ¬ S k) : w'.ownsRow B T c v n cs :=
 owns_same h fun k hk => ht.block k (World.ownsRow.lt h k hk).2 (hS k hk)
theorem rowI_empty (w : World) : (w.alloc (.cells #[] 3)).ownsRow w.heap.size 3 1 (.slice (some ⟨w.heap.size, 0, none⟩) 0 0) 0 [] :=
 ⟨rfl, .inr ⟨w.heap.size, 0, #[], rfl, Nat.le_refl _, (MapKept.heap_alloc w _).1, Nat.le_refl _, Nat.zero_le _, rfl, rfl⟩⟩
theorem Turns.belowT {S : Nat → Prop} {a b c : World} (h : Turns S a b) (k : Below a.heap.size b c) : Turns S a c :=
 ⟨k.os.trans h.os, k.tape.trans h.tape, k.output.trans h.output, Nat.le_trans h.size k.size, fun i hi hS => (k.block i hi).trans (h.block i hi hS)⟩
theorem grown_turns {w w' : World} {row : Option Nat} (h : w.grownBy w' row) : Turns (fun k => row = some k) w w' := ⟨h.os, h.tape, h.output, h.size, fun k hk hS => h.block k hk (fun e => hS e.symm)⟩
theorem owns_ne {B : Nat} {e : TypeId} {size n : Nat} {w : World} {v : Value} {xs : List Value} (h : w.ownsRow B e size v n xs) {P : Nat} {T : TypeId} {vs : Array Value} (hb : Bk w P T vs) (hT : T ≠ e) : ¬ v.ownBlock = some P := by
 intro hE
 obtain ⟨_, ⟨rfl, _⟩ | ⟨g, cap, cur, rfl, _, hc, _⟩⟩ := h
 ·simp [Value.ownBlock] at hE
 ·simp [Value.ownBlock] at hE
  subst hE
  have hb' : w.heap[g]? = some (.cells vs T) := hb
  rw [hb'] at hc
  simp at hc
  exact hT hc.2
theorem owns_lt {B : Nat} {e : TypeId} {size n : Nat} {w : World} {v : Value} {xs : List Value} (h : w.ownsRow B e size v n xs) {k : Nat} (hk : v.ownBlock = some k) : k < w.heap.size := by
 obtain ⟨_, ⟨rfl, _⟩ | ⟨g, cap, cur, rfl, _, hc, _⟩⟩ := h
 ·simp [Value.ownBlock] at hk
 ·simp [Value.ownBlock] at hk
  subst hk
  exact (Array.getElem?_eq_some_iff.1 hc).1
theorem Turns.grownNew {S : Nat → Prop} {a w w' : World} {row : Option Nat} (h : Turns S a w) (hg : w.grownBy w' row) (hr : ∀ k, row = some k → a.heap.size ≤ k) : Turns S a w' :=
 ⟨hg.os.trans h.os, hg.tape.trans h.tape, hg.output.trans h.output, Nat.le_trans h.size hg.size, fun k hk hS => (hg.block k (Nat.lt_of_lt_of_le hk h.size) (fun e => by have := hr k e.symm; omega)).trans (h.block k hk hS)⟩
theorem owns_mono {B B' : Nat} {e : TypeId} {size n : Nat} {w : World} {v : Value} {xs : List Value} (h : w.ownsRow B e size v n xs) (hB : B' ≤ B) : w.ownsRow B' e size v n xs := by
 obtain ⟨h0, h1 | ⟨g, cap, cur, e, hg, h2⟩⟩ := h
 ·exact ⟨h0, .inl h1⟩
 ·exact ⟨h0, .inr ⟨g, cap, cur, e, Nat.le_trans hB hg, h2⟩⟩
theorem intCells_ones (l : List Int) : ∀ u ∈ intCells l, u.oneCell' = true := by
 intro u hu
 obtain ⟨z, _, rfl⟩ := List.mem_map.1 hu
 rfl
theorem owns_slice {B : Nat} {e : TypeId} {size n : Nat} {w : World} {v : Value} {xs : List Value} (h : w.ownsRow B e size v n xs) : ∃ a cap, v = .slice a n cap := by
 obtain ⟨_, ⟨rfl, h0⟩ | ⟨g, cap, cur, rfl, _⟩⟩ := h
 ·exact ⟨none, 0, by rw [h0]⟩
 ·exact ⟨_, _, rfl⟩
theorem owns_apart {B B' : Nat} {e e' : TypeId} {size n size' n' : Nat} {w : World} {v v' : Value} {xs xs' : List Value} (h : w.ownsRow B e size v n xs) (h' : w.ownsRow B' e' size' v' n' xs') (he : e ≠ e') {k : Nat} (hk : v.ownBlock = some k) : ¬ v'.ownBlock = some k := by
 intro hk'
 obtain ⟨_, ⟨rfl, _⟩ | ⟨g, cap, cur, rfl, _, hc, _⟩⟩ := h
 ·simp [Value.ownBlock] at hk
 ·obtain ⟨_, ⟨rfl, _⟩ | ⟨g', cap', cur', rfl, _, hc', _⟩⟩ := h'
  ·simp [Value.ownBlock] at hk'
  ·simp [Value.ownBlock] at hk hk'
   subst hk hk'
   rw [hc] at hc'
   simp at hc'
   exact he hc'.2
theorem wpList_append_own2 {P : Program} {ops : Array Oper} {rest : List Oper} {o : Oper} {a : Act} {Q : Exit → Act → World → Prop} (w : World) (hgd : o.guard = none) (s x : Operand) (t : TypeId)
  (ho : o.op = .call { callee := .builtin .append, args := #[s, x], argTypes := #[t, t] })
  (base : Nat) (e : TypeId) (i : TypeInfo) (z : Value) (size bytes : Nat) (ht : P.underlying t = some (.slice e)) (hi : P.info? e = some i) (hz : i.zero = some z)
  (hsize : i.size = size) (hby : i.bytes = bytes) (hzs : z.cells.size = size) (hsz : 0 < size)
  (v : Value) (n : Nat) (xs : List Value) (hs : a.eval s = v) (hown : w.ownsRow base e size v n xs)
  (ad : Addr) (m c : Nat) (news : List Value) (hx : a.eval x = .slice (some ad) m c) (hl : news.length = m * size) (hnews : ∀ j u, news[j]? = some u → w.cell? (ad.add j) = some u) (h1 : ∀ u ∈ news, u.oneCell' = true)
  (h63 : n + m ≤ maxLen) (hbytes : (n + m) * bytes ≤ 140737488355328) (hbase : base ≤ w.heap.size)
  (h : ∀ v' w', w'.ownsRow base e size v' (n + m) (xs ++ news) → w.grownBy w' v.ownBlock → NewRow w v v' → wpList P ops Q rest (a.put o.dst v') w') : wpList P ops Q (o :: rest) a w :=
 wpList_plain hgd fun _ hK => by
  obtain ⟨v', w', hr, q1, q2, q3⟩ := run_append_own2 (P := P) w base t o.type e i z size bytes ht hi hz hsize hby hzs hsz v n xs hown ad m c news hl hnews h1 h63 hbytes hbase
  unfold Oper.wp execOp
  simp only [ho, resolve, invoke, builtin, Sem.run_bind, Sem.run_pure, Result.andThen_ok, List.map_toArray, List.map_cons, List.map_nil, hs, hx, hr]
  exact hK _ _ (h v' w' q1 q2 q3)
abbrev put3s (w : World) (P : Nat) (v0 v1 v2 : Value) : World := ((w.setCell ⟨P, 0, none⟩ v0).setCell ⟨P, 1, none⟩ v1).setCell ⟨P, 2, none⟩ v2
theorem put3s_turns (w : World) (P : Nat) (v0 v1 v2 : Value) : Turns (fun b => b = P) w (put3s w P v0 v1 v2) :=
 ((put1_turns w P 0 v0).trans (put1_turns _ P 1 v1)).trans (put1_turns _ P 2 v2)
theorem Bk.put3s {w : World} {P : Nat} {T : TypeId} {a0 a1 a2 : Value} (h : Bk w P T #[a0, a1, a2]) (v0 v1 v2 : Value) : Bk (put3s w P v0 v1 v2) P T #[v0, v1, v2] :=
 ((h.put 0 v0).put 1 v1).put 2 v2
abbrev put7s (w : World) (P : Nat) (v0 v1 v2 v3 v4 v5 v6 : Value) : World := ((((((w.setCell ⟨P, 0, none⟩ v0).setCell ⟨P, 1, none⟩ v1).setCell ⟨P, 2, none⟩ v2).setCell ⟨P, 3, none⟩ v3).setCell ⟨P, 4, none⟩ v4).setCell ⟨P, 5, none⟩ v5).setCell ⟨P, 6, none⟩ v6
theorem put7s_turns (w : World) (P : Nat) (v0 v1 v2 v3 v4 v5 v6 : Value) : Turns (fun b => b = P) w (put7s w P v0 v1 v2 v3 v4 v5 v6) :=
 ((((((put1_turns w P 0 v0).trans (put1_turns _ P 1 v1)).trans (put1_turns _ P 2 v2)).trans (put1_turns _ P 3 v3)).trans (put1_turns _ P 4 v4)).trans (put1_turns _ P 5 v5)).trans (put1_turns _ P 6 v6)
theorem Bk.put7s {w : World} {P : Nat} {T : TypeId} {a0 a1 a2 a3 a4 a5 a6 : Value} (h : Bk w P T #[a0, a1, a2, a3, a4, a5, a6]) (v0 v1 v2 v3 v4 v5 v6 : Value) : Bk (put7s w P v0 v1 v2 v3 v4 v5 v6) P T #[v0, v1, v2, v3, v4, v5, v6] := by
 have h0 : Bk (w.setCell ⟨P, 0, none⟩ v0) P T #[v0, a1, a2, a3, a4, a5, a6] := h.put 0 v0
 have h1 : Bk ((w.setCell ⟨P, 0, none⟩ v0).setCell ⟨P, 1, none⟩ v1) P T #[v0, v1, a2, a3, a4, a5, a6] := h0.put 1 v1
 have h2 : Bk (((w.setCell ⟨P, 0, none⟩ v0).setCell ⟨P, 1, none⟩ v1).setCell ⟨P, 2, none⟩ v2) P T #[v0, v1, v2, a3, a4, a5, a6] := h1.put 2 v2
 have h3 : Bk ((((w.setCell ⟨P, 0, none⟩ v0).setCell ⟨P, 1, none⟩ v1).setCell ⟨P, 2, none⟩ v2).setCell ⟨P, 3, none⟩ v3) P T #[v0, v1, v2, v3, a4, a5, a6] := h2.put 3 v3
 have h4 : Bk (((((w.setCell ⟨P, 0, none⟩ v0).setCell ⟨P, 1, none⟩ v1).setCell ⟨P, 2, none⟩ v2).setCell ⟨P, 3, none⟩ v3).setCell ⟨P, 4, none⟩ v4) P T #[v0, v1, v2, v3, v4, a5, a6] := h3.put 4 v4
 have h5 : Bk ((((((w.setCell ⟨P, 0, none⟩ v0).setCell ⟨P, 1, none⟩ v1).setCell ⟨P, 2, none⟩ v2).setCell ⟨P, 3, none⟩ v3).setCell ⟨P, 4, none⟩ v4).setCell ⟨P, 5, none⟩ v5) P T #[v0, v1, v2, v3, v4, v5, a6] := h4.put 5 v5
 have h6 : Bk (((((((w.setCell ⟨P, 0, none⟩ v0).setCell ⟨P, 1, none⟩ v1).setCell ⟨P, 2, none⟩ v2).setCell ⟨P, 3, none⟩ v3).setCell ⟨P, 4, none⟩ v4).setCell ⟨P, 5, none⟩ v5).setCell ⟨P, 6, none⟩ v6) P T #[v0, v1, v2, v3, v4, v5, v6] := h5.put 6 v6
 exact h6
theorem Turns.sub {S S' : Nat → Prop} {w w' : World} (h : Turns S w w') (hS : ∀ k, S k → S' k) : Turns S' w w' := ⟨h.os, h.tape, h.output, h.size, fun k hk hn => h.block k hk (fun e => hn (hS k e))⟩
end Go.Proofs.YtnccenbkpocjgaaGreat

/- Append of a source that may be empty, or nil. -/
namespace Go.Proofs.YtnccenbkpocjgaaGreat
open Go.RowKit
def SrcC (w : World) (x : Value) (size m : Nat) (news : List Value) : Prop := news.length = m * size ∧ ∃ a c, x = .slice a m c ∧ (m = 0 ∨ ∃ b off, a = some ⟨b, off, none⟩ ∧ b < w.heap.size ∧ ∀ j, j < m * size → w.cell? ⟨b, off + j, none⟩ = news[j]?)
theorem SrcC.below {w w' : World} {x : Value} {size m : Nat} {news : List Value} (h : SrcC w x size m news) (hb : Below w.heap.size w w') : SrcC w' x size m news := by
 obtain ⟨hn, a, c, rfl, h⟩ := h
 refine ⟨hn, a, c, rfl, h.imp id ?_⟩
 rintro ⟨b, off, rfl, hlt, hc⟩
 exact ⟨b, off, rfl, Nat.lt_of_lt_of_le hlt hb.size, fun j hj => (hb.cell (p := ⟨b, off + j, none⟩) hlt).trans (hc j hj)⟩
theorem IsD.src {w : World} {x : Value} {c n : Nat} {cs : List Value} (h : IsD w x (flat c n cs)) (hl : cs.length = n * c) : SrcC w x c n cs := by
 obtain ⟨a, cap, rfl, h1, h2, h⟩ := IsD.parts (c := c) (n := n) h
 refine ⟨hl, a, cap, rfl, h.imp id ?_⟩
 rintro ⟨b, off, rfl, hlt, hc⟩
 refine ⟨b, off, rfl, hlt, fun j hj => ?_⟩
 obtain ⟨u, hu, hd⟩ := hc j hj
 have := IsD.val_eq hd
 subst this
 rw [hu, List.getElem?_eq_getElem (by omega)]
 simp [show j < cs.length by omega]
theorem IsD.srcI {w : World} {x : Value} {l : List Int} (h : IsD w x (intsD l)) : SrcC w x 1 l.length (intCells l) := IsD.src h (by rw [intCells_length]; omega)
theorem IsD.srcEv {w : World} {x : Value} {l : List Ev} (h : IsD w x (evsD l)) : SrcC w x 7 l.length (cellsL l) := IsD.src h (cellsL_length l)
theorem IsD.srcX {w : World} {x : Value} {l : List Em} (h : IsD w x (emsD l)) : SrcC w x 3 l.length (cellsX l) := IsD.src h (cellsX_length l)
theorem run_append_none_any {P : Program} {w : World} (base : Nat) (t ty e : TypeId) (i : TypeInfo) (size : Nat) (ht : P.underlying t = some (.slice e)) (hi : P.info? e = some i) (v : Value) (n c : Nat) (xs : List Value) (hown : w.ownsRow base e size v n xs) :
  (Builtin.append_ #[t, t] ty #[v, .slice none 0 c]).run P w = .ok v w := by
 rcases hown.2 with ⟨rfl, rfl⟩ | ⟨g, cap, cur, rfl, _, _, hnc, _⟩
 ·simp [Builtin.append_, run_underlying ht, sizeOf, typeInfo, hi, Builtin.lenOf, Builtin.firstCells]
 ·simp [Builtin.append_, run_underlying ht, sizeOf, typeInfo, hi, Builtin.lenOf, Builtin.firstCells, hnc, storeCells]
theorem step_append_src {P : Program} {ops : Array Oper} {o : Oper} {a : Act} {w : World} {K : Act → World → Prop} {Q : Exit → Act → World → Prop} {E : Prop}
  (hg : o.guard = none) (s x : Operand) (t : TypeId) (hop : o.op = Op.call { callee := Callee.builtin Builtin.append, args := #[s, x], argTypes := #[t, t] })
  (base : Nat) (e : TypeId) (i : TypeInfo) (z : Value) (size bytes : Nat) (h1 : P.underlying t = some (.slice e)) (h2 : P.info? e = some i) (h3 : i.zero = some z) (h4 : i.size = size) (h5 : i.bytes = bytes) (h6 : z.cells.size = size) (h7 : 0 < size)
  (v : Value) (n : Nat) (xs : List Value) (hs : a.eval s = v) (hown : w.ownsRow base e size v n xs)
  (u : Value) (m : Nat) (news : List Value) (hx : a.eval x = u) (hc : SrcC w u size m news) (h1c : ∀ u ∈ news, u.oneCell' = true)
  (b1 : n + m ≤ maxLen) (b2 : (n + m) * bytes ≤ 140737488355328) (hbase : base ≤ w.heap.size)
  (hK : ∀ v' w', w'.ownsRow base e size v' (n + m) (xs ++ news) → w.grownBy w' v.ownBlock → NewRow w v v' → K (a.put o.dst v') w') :
  if Region.wanted o (yielded ops a.tmps) = true then Oper.wp P o a w K Q else E := by
 obtain ⟨hn, au, c, rfl, hc⟩ := hc
 have some_case : ∀ ad : Addr, au = some ad → (∀ j u, news[j]? = some u → w.cell? (ad.add j) = some u) → (if Region.wanted o (yielded ops a.tmps) = true then Oper.wp P o a w K Q else E) := fun ad e1 e2 => by
  subst e1
  exact step_append_own2 hg s x t hop base e i z size bytes h1 h2 h3 h4 h5 h6 h7 v n xs hs hown ad m c news hx hn e2 h1c b1 b2 hbase hK
 rcases hc with rfl | ⟨b, off, rfl, hlt, hcc⟩
 ·have hnil : news = [] := List.eq_nil_of_length_eq_zero (by simpa using hn)
  subst hnil
  cases au with
  | some ad => exact some_case ad rfl (fun j u hu => by simp at hu)
  | none =>
   have hw : Region.wanted o (yielded ops a.tmps) = true := by simp [Region.wanted, hg]
   rw [if_pos hw]
   have hr := run_append_none_any (P := P) (w := w) base t o.type e i size h1 h2 v n c xs hown
   unfold Oper.wp execOp
   simp only [hop, resolve, invoke, builtin, Sem.run_bind, Sem.run_pure, Result.andThen_ok, List.map_toArray, List.map_cons, List.map_nil, hs, hx, hr]
   exact hK v w (by simpa using hown) (grown_refl w _) (.inl rfl)
 ·refine some_case ⟨b, off, none⟩ rfl (fun j u hu => ?_)
  have hj : j < m * size := by rw [← hn]; exact (List.getElem?_eq_some_iff.1 hu).1
  rw [Addr.add_lit, hcc j hj]
  exact hu
theorem wpList_append_src {P : Program} {ops : Array Oper} {rest : List Oper} {o : Oper} {a : Act} {Q : Exit → Act → World → Prop} (w : World) (hgd : o.guard = none) (s x : Operand) (t : TypeId)
  (ho : o.op = .call { callee := .builtin .append, args := #[s, x], argTypes := #[t, t] })
  (base : Nat) (e : TypeId) (i : TypeInfo) (z : Value) (size bytes : Nat) (ht : P.underlying t = some (.slice e)) (hi : P.info? e = some i) (hz : i.zero = some z)
  (hsize : i.size = size) (hby : i.bytes = bytes) (hzs : z.cells.size = size) (hsz : 0 < size)
  (v : Value) (n : Nat) (xs : List Value) (hs : a.eval s = v) (hown : w.ownsRow base e size v n xs)
  (u : Value) (m : Nat) (news : List Value) (hx : a.eval x = u) (hc : SrcC w u size m news) (h1 : ∀ u ∈ news, u.oneCell' = true)
  (h63 : n + m ≤ maxLen) (hbytes : (n + m) * bytes ≤ 140737488355328) (hbase : base ≤ w.heap.size)
  (h : ∀ v' w', w'.ownsRow base e size v' (n + m) (xs ++ news) → w.grownBy w' v.ownBlock → NewRow w v v' → wpList P ops Q rest (a.put o.dst v') w') : wpList P ops Q (o :: rest) a w := by
 obtain ⟨hn, au, c, rfl, hc⟩ := hc
 have some_case : ∀ ad : Addr, au = some ad → (∀ j u, news[j]? = some u → w.cell? (ad.add j) = some u) → wpList P ops Q (o :: rest) a w := fun ad e1 e2 => by
  subst e1
  exact wpList_append_own2 w hgd s x t ho base e i z size bytes ht hi hz hsize hby hzs hsz v n xs hs hown ad m c news hx hn e2 h1 h63 hbytes hbase h
 rcases hc with rfl | ⟨b, off, rfl, hlt, hcc⟩
 ·have hnil : news = [] := List.eq_nil_of_length_eq_zero (by simpa using hn)
  subst hnil
  cases au with
  | some ad => exact some_case ad rfl (fun j u hu => by simp at hu)
  | none =>
   refine wpList_plain hgd fun _ hK => ?_
   have hr := run_append_none_any (P := P) (w := w) base t o.type e i size ht hi v n c xs hown
   unfold Oper.wp execOp
   simp only [ho, resolve, invoke, builtin, Sem.run_bind, Sem.run_pure, Result.andThen_ok, List.map_toArray, List.map_cons, List.map_nil, hs, hx, hr]
   exact hK _ _ (h v w (by simpa using hown) (grown_refl w _) (.inl rfl))
 ·refine some_case ⟨b, off, none⟩ rfl (fun j u hu => ?_)
  have hj : j < m * size := by rw [← hn]; exact (List.getElem?_eq_some_iff.1 hu).1
  rw [Addr.add_lit, hcc j hj]
  exact hu
theorem cellsL_ones (l : List Ev) : ∀ u ∈ cellsL l, u.oneCell' = true := fun u hu => by obtain ⟨i, rfl⟩ := evs_plain l u hu; rfl
theorem cellsX_ones (l : List Em) : ∀ u ∈ cellsX l, u.oneCell' = true := fun u hu => by obtain ⟨i, rfl⟩ := ems_plain l u hu; rfl
set_option maxRecDepth 100000 in
set_option maxHeartbeats 2000000 in
theorem l1own_src (x : Value) (l : List Ev) (w : World) (hl : l.length ≤ 1048577) (h : SrcC w x 7 l.length (cellsL l)) :
  Calls Tryz.prog 58 #[x] w fun e w' => ∃ y, e = .returned y ∧ w'.ownsRow w.heap.size 55 7 y l.length (cellsL l) ∧ Below w.heap.size w w' := by
 obtain ⟨i0, hi, hz0, hz1, hz2⟩ := info_parts info25
 have hb : Below w.heap.size w (w.alloc (.cells #[] 55)) := (Below.refl _ w).alloc (Nat.le_refl _) _
 have HS : Hid (SrcC (w.alloc (.cells #[] 55)) x 7 l.length (cellsL l)) := h.below hb
 have HB : Hid (Below w.heap.size w (w.alloc (.cells #[] 55))) := hb
 obtain ⟨_, a, c, rfl, _⟩ := h
 clear hb
 go_enter Tryz.func58, Tryz.ntmps58
 go_wp2_with (at_builtin; refine wpList_append_src _ rfl _ _ 31 rfl w.heap.size 55 i0 _ 7 56 Tryz.underlying31 hi hz0 hz1 hz2 rfl (by decide) (.slice (some ⟨w.heap.size, 0, none⟩) 0 0) 0 [] rfl (row_empty w) (.slice a l.length c) l.length (cellsL l) rfl HS.out (cellsL_ones l) (by unfold maxLen; omega) (by omega) (by simp) ?_; intro v' w' hown hgrow hnew)
 go_ret
 rw [Nat.zero_add, List.nil_append] at hown
 exact ⟨_, rfl, hown, HB.out.grown hgrow (by simp) (fun k e => by cases e; exact Nat.le_refl _)⟩
end Go.Proofs.YtnccenbkpocjgaaGreat

/- A row that grows, whose cells own what they hold. -/
namespace Go.Proofs.YtnccenbkpocjgaaGreat
open Go.RowKit
def nthV (cs : List Value) (j : Nat) : Value := cs.getD j (.int .i64 0)
structure GrowD (B : Nat) (T : TypeId) (w : World) (v : Value) (c n : Nat) (cs : List Value) (f : Nat → Dat) (G : Nat → Nat → Prop) : Prop where
 row : w.ownsRow B T c v n cs
 own : ∀ j, j < n * c → OwnD w (G j) (nthV cs j) (f j)
 lim : ∀ j, j < n * c → ∀ k, G j k → B ≤ k ∧ k < w.heap.size ∧ v.ownBlock ≠ some k
 dis : ∀ i j, i < n * c → j < n * c → i ≠ j → ∀ k, G i k → ¬ G j k
theorem GrowD.nil (B : Nat) (T : TypeId) (w : World) (c : Nat) (f : Nat → Dat) (G : Nat → Nat → Prop) : GrowD B T w (.slice none 0 0) c 0 [] f G :=
 ⟨World.ownsRow_nil w B T c, fun j hj => by omega, fun j hj => by omega, fun i j hi => by omega⟩
theorem GrowD.turns {S : Nat → Prop} {B : Nat} {T : TypeId} {w w' : World} {v : Value} {c n : Nat} {cs : List Value} {f : Nat → Dat} {G : Nat → Nat → Prop} (h : GrowD B T w v c n cs f G) (ht : Turns S w w') (h1 : ∀ k, v.ownBlock = some k → ¬ S k) (h2 : ∀ j, j < n * c → ∀ k, G j k → ¬ S k) : GrowD B T w' v c n cs f G :=
 ⟨owns_turns h.row ht h1, fun j hj => (h.own j hj).turns ht (h2 j hj), fun j hj k hk => ⟨(h.lim j hj k hk).1, Nat.lt_of_lt_of_le (h.lim j hj k hk).2.1 ht.size, (h.lim j hj k hk).2.2⟩, h.dis⟩
theorem GrowD.below {B : Nat} {T : TypeId} {w w' : World} {v : Value} {c n : Nat} {cs : List Value} {f : Nat → Dat} {G : Nat → Nat → Prop} (h : GrowD B T w v c n cs f G) (hb : Below w.heap.size w w') : GrowD B T w' v c n cs f G :=
 h.turns (S := fun _ => False) (Turns.of_below hb) (fun _ _ => id) (fun _ _ _ _ => id)
theorem GrowD.low {S : Nat → Prop} {B : Nat} {T : TypeId} {w w' : World} {v : Value} {c n : Nat} {cs : List Value} {f : Nat → Dat} {G : Nat → Nat → Prop} (h : GrowD B T w v c n cs f G) (ht : Turns S w w') (hS : ∀ k, B ≤ k → ¬ S k) : GrowD B T w' v c n cs f G :=
 h.turns ht (fun k hk => hS k (row_ge h.row hk)) (fun j hj k hk => hS k (h.lim j hj k hk).1)
def joinF {α : Type} (m : Nat) (f g : Nat → α) : Nat → α := fun j => if j < m then f j else g (j - m)
theorem GrowD.snoc {B : Nat} {T : TypeId} {w w3 : World} {v v3 : Value} {c n : Nat} {cs ns : List Value} {f d : Nat → Dat} {G K : Nat → Nat → Prop} (h : GrowD B T w v c n cs f G) (ho : w3.ownsRow B T c v3 (n + 1) (cs ++ ns)) (hg : w.grownBy w3 v.ownBlock) (hw : NewRow w v v3)
  (hd : ∀ r, r < c → OwnD w (K r) (nthV ns r) (d r)) (hK : ∀ r, r < c → ∀ k, K r k → B ≤ k ∧ k < w.heap.size ∧ v.ownBlock ≠ some k ∧ ∀ j, j < n * c → ¬ G j k) (hKK : ∀ i j, i < c → j < c → i ≠ j → ∀ k, K i k → ¬ K j k) :
  GrowD B T w3 v3 c (n + 1) (cs ++ ns) (joinF (n * c) f d) (joinF (n * c) G K) := by
 have hl : cs.length = n * c := h.row.1
 have ht := grown_turns hg
 have hsz : w.heap.size ≤ w3.heap.size := hg.size
 have hv3 : ∀ k, k < w.heap.size → v.ownBlock ≠ some k → v3.ownBlock ≠ some k := fun k hk hv e => by
  rcases hw with h1 | h1
  ·exact hv (h1 ▸ e)
  ·have := h1 k e; omega
 have hnc : (n + 1) * c = n * c + c := by rw [Nat.add_mul, Nat.one_mul]
 refine ⟨ho, fun j hj => ?_, fun j hj k hk => ?_, fun i j hi hj hij k hk hk' => ?_⟩
 ·unfold joinF
  by_cases hlt : j < n * c
  ·rw [if_pos hlt, if_pos hlt, show nthV (cs ++ ns) j = nthV cs j by unfold nthV; simp [List.getElem?_append_left (by omega : j < cs.length)]]
   exact (h.own j hlt).turns ht (fun k hk e => (h.lim j hlt k hk).2.2 e)
  ·rw [if_neg hlt, if_neg hlt, show nthV (cs ++ ns) j = nthV ns (j - n * c) by unfold nthV; rw [List.getD_eq_getElem?_getD, List.getElem?_append_right (by omega), hl, ← List.getD_eq_getElem?_getD]]
   exact (hd (j - n * c) (by omega)).turns ht (fun k hk e => (hK (j - n * c) (by omega) k hk).2.2.1 e)
 ·unfold joinF at hk
  by_cases hlt : j < n * c
  ·rw [if_pos hlt] at hk
   have := h.lim j hlt k hk
   exact ⟨this.1, by omega, hv3 k this.2.1 this.2.2⟩
  ·rw [if_neg hlt] at hk
   have := hK (j - n * c) (by omega) k hk
   exact ⟨this.1, by omega, hv3 k this.2.1 this.2.2.1⟩
 ·unfold joinF at hk hk'
  by_cases hi1 : i < n * c <;> by_cases hj1 : j < n * c
  ·rw [if_pos hi1] at hk; rw [if_pos hj1] at hk'
   exact h.dis i j hi1 hj1 hij k hk hk'
  ·rw [if_pos hi1] at hk; rw [if_neg hj1] at hk'
   exact (hK (j - n * c) (by omega) k hk').2.2.2 i hi1 hk
  ·rw [if_neg hi1] at hk; rw [if_pos hj1] at hk'
   exact (hK (i - n * c) (by omega) k hk).2.2.2 j hj1 hk'
  ·rw [if_neg hi1] at hk; rw [if_neg hj1] at hk'
   exact hKK (i - n * c) (j - n * c) (by omega) (by omega) (by omega) k hk hk'
def GrowD.blocks (v : Value) (c n : Nat) (G : Nat → Nat → Prop) : Nat → Prop := fun k => v.ownBlock = some k ∨ ∃ j, j < n * c ∧ G j k
theorem GrowD.ownD {B : Nat} {T : TypeId} {w : World} {v : Value} {c n : Nat} {cs : List Value} {f : Nat → Dat} {G : Nat → Nat → Prop} (h : GrowD B T w v c n cs f G) : OwnD w (GrowD.blocks v c n G) v (.row c n f) := by
 obtain ⟨hl, ⟨rfl, rfl⟩ | ⟨g, cap, cur, rfl, hg, hc, h1, h2, h3, h4⟩⟩ := h.row
 ·exact .nil _ _ _ _ _ (Nat.zero_le _)
 ·have hlt : g < w.heap.size := (Array.getElem?_eq_some_iff.1 hc).1
  refine .row _ g n cap c f (nthV cs) G h1 h2 hlt (.inl rfl) (fun j hj => ⟨?_, by simp [World.frozen?, hc]⟩) h.own (fun j hj k hk => ⟨.inr ⟨j, hj, hk⟩, fun e => (h.lim j hj k hk).2.2 (by rw [e]; rfl)⟩) h.dis
  have hjc : j < cs.length := by omega
  have h5 : w.cell? ⟨g, j, none⟩ = cs[j]? := by
   rw [← h4, List.getElem?_take_of_lt hj]
   simp [World.cell?, hc]
  rw [h5, List.getElem?_eq_getElem hjc]
  simp [nthV, hjc]
theorem GrowD.blocks_ge {B : Nat} {T : TypeId} {w : World} {v : Value} {c n : Nat} {cs : List Value} {f : Nat → Dat} {G : Nat → Nat → Prop} (h : GrowD B T w v c n cs f G) {k : Nat} (hk : GrowD.blocks v c n G k) : B ≤ k ∧ k < w.heap.size := by
 rcases hk with hk | ⟨j, hj, hk⟩
 ·exact ⟨row_ge h.row hk, owns_lt h.row hk⟩
 ·exact ⟨(h.lim j hj k hk).1, (h.lim j hj k hk).2.1⟩
end Go.Proofs.YtnccenbkpocjgaaGreat

/- One thing done, put behind a row of such things: what it owns. -/
namespace Go.Proofs.YtnccenbkpocjgaaGreat
open Go.RowKit
theorem infoPX : (Tryz.prog.info? 191).map (fun i => (i.zero, i.size, i.bytes)) = some (some (.agg #[.int .i64 0, .int .i64 0, .int .i64 0]), 3, 24) := by kernel_rfl
theorem infoPQ : (Tryz.prog.info? 126).map (fun i => (i.zero, i.size, i.bytes)) = some (some (.agg #[.int .i64 0, .int .i64 0, .int .i64 0, .int .i64 0, .int .i64 0, .int .i64 0, .int .i64 0, .slice none 0 0, .int .i64 0, .int .i64 0, .slice none 0 0, .slice none 0 0]), 12, 144) := by kernel_rfl
theorem row_empty_any (w : World) (T : TypeId) (c : Nat) : (w.alloc (.cells #[] T)).ownsRow w.heap.size T c (.slice (some ⟨w.heap.size, 0, none⟩) 0 0) 0 [] :=
 ⟨by simp, .inr ⟨w.heap.size, 0, #[], rfl, Nat.le_refl _, (MapKept.heap_alloc w _).1, Nat.le_refl _, Nat.zero_le _, by simp, by simp⟩⟩
theorem Bk.src {w : World} {P : Nat} {T : TypeId} {l : List Value} (h : Bk w P T l.toArray) : ∀ j u, l[j]? = some u → w.cell? ((⟨P, 0, none⟩ : Addr).add j) = some u := fun j u hu => by
 rw [Addr.add_lit]
 simpa using h.cell (i := j) (by simpa using hu)
def pastL (q : Ps) (v7 v10 v11 : Value) : List Value := [.int .i64 q.e.t, .int .i64 q.e.s, .int .i64 q.e.q, .int .i64 q.e.d, .int .i64 q.e.k, .int .i64 q.e.v, .int .i64 q.e.g, v7, .int .i64 q.b.q, .int .i64 q.b.d, v10, v11]
def pastK (K7 K10 K11 : Nat → Prop) (r : Nat) : Nat → Prop := if r = 7 then K7 else if r = 10 then K10 else if r = 11 then K11 else fun _ => False
theorem past_own {w : World} {q : Ps} {v7 v10 v11 : Value} {K7 K10 K11 : Nat → Prop} (h7 : OwnD w K7 v7 (intsD q.b.r)) (h10 : OwnD w K10 v10 (evsD q.s)) (h11 : OwnD w K11 v11 (emsD q.x)) : ∀ r, r < 12 → OwnD w (pastK K7 K10 K11 r) (nthV (pastL q v7 v10 v11) r) (q.cell r)
 | 0, _ => .val _ _
 | 1, _ => .val _ _
 | 2, _ => .val _ _
 | 3, _ => .val _ _
 | 4, _ => .val _ _
 | 5, _ => .val _ _
 | 6, _ => .val _ _
 | 7, _ => h7
 | 8, _ => .val _ _
 | 9, _ => .val _ _
 | 10, _ => h10
 | 11, _ => h11
theorem GrowD.snocPs {B : Nat} {T : TypeId} {V0 w w3 : World} {v v3 v7 v10 v11 : Value} {n : Nat} {cs : List Value} {l : List Ps} {G : Nat → Nat → Prop} {K7 K10 K11 : Nat → Prop} (h0 : GrowD B T V0 v 12 n cs (pastsD_f l) G) (hb : Below V0.heap.size V0 w) (hB : B ≤ V0.heap.size)
  (h7 : OwnD w K7 v7 (intsD (psAt l n).b.r)) (h10 : OwnD w K10 v10 (evsD (psAt l n).s)) (h11 : OwnD w K11 v11 (emsD (psAt l n).x))
  (l7 : ∀ k, K7 k → V0.heap.size ≤ k ∧ k < w.heap.size) (l10 : ∀ k, K10 k → V0.heap.size ≤ k ∧ k < w.heap.size) (l11 : ∀ k, K11 k → V0.heap.size ≤ k ∧ k < w.heap.size)
  (d1 : ∀ k, K7 k → ¬ K10 k) (d2 : ∀ k, K7 k → ¬ K11 k) (d3 : ∀ k, K10 k → ¬ K11 k)
  (ho : w3.ownsRow B T 12 v3 (n + 1) (cs ++ pastL (psAt l n) v7 v10 v11)) (hg : w.grownBy w3 v.ownBlock) (hw : NewRow w v v3) :
  GrowD B T w3 v3 12 (n + 1) (cs ++ pastL (psAt l n) v7 v10 v11) (pastsD_f l) (joinF (n * 12) G (pastK K7 K10 K11)) := by
 have hK : ∀ r k, pastK K7 K10 K11 r k → V0.heap.size ≤ k ∧ k < w.heap.size := fun r k hk => by
  unfold pastK at hk
  split at hk
  ·exact l7 k hk
  ·split at hk
   ·exact l10 k hk
   ·split at hk
    ·exact l11 k hk
    ·exact hk.elim
 have hKK : ∀ i j, i ≠ j → ∀ k, pastK K7 K10 K11 i k → ¬ pastK K7 K10 K11 j k := fun i j hij k h1 h2 => by
  unfold pastK at h1 h2
  have e1 := d1 k
  have e2 := d2 k
  have e3 := d3 k
  split at h1 <;> split at h2
  ·omega
  ·split at h2
   ·exact e1 h1 h2
   ·split at h2
    ·exact e2 h1 h2
    ·exact h2
  ·split at h1
   ·exact e1 h2 h1
   ·split at h1
    ·exact e2 h2 h1
    ·exact h1
  ·split at h1 <;> split at h2
   ·omega
   ·split at h2
    ·exact e3 h1 h2
    ·exact h2
   ·split at h1
    ·exact e3 h2 h1
    ·exact h1
   ·split at h1 <;> split at h2
    ·omega
    ·exact h2
    ·exact h1
    ·exact h2
 have hbl : ∀ k, GrowD.blocks v 12 n G k → k < V0.heap.size := fun k hk => (h0.blocks_ge hk).2
 have h := (h0.below hb).snoc ho hg hw (past_own h7 h10 h11) (fun r hr k hk => ⟨by have := hK r k hk; omega, (hK r k hk).2, fun e => by have := hbl k (.inl e); have := hK r k hk; omega, fun j hj e => by have := hbl k (.inr ⟨j, hj, e⟩); have := hK r k hk; omega⟩) (fun i j hi hj hij => hKK i j hij)
 refine ⟨h.row, fun j hj => ?_, h.lim, h.dis⟩
 have := h.own j hj
 have e : joinF (n * 12) (pastsD_f l) (psAt l n).cell j = pastsD_f l j := by
  unfold joinF
  split
  ·rfl
  ·rename_i hlt
   have := pastsD_at l n (r := j - n * 12) (by omega)
   rw [show n * 12 + (j - n * 12) = j by omega] at this
   exact this.symm
 rw [e] at this
 exact this
end Go.Proofs.YtnccenbkpocjgaaGreat

/- A drawn region whose last store need not keep what the others keep: an operation that the store waits for (by a chain) may be taken first in every world that meets S, where S is shown behind every operation but that store. -/
namespace Go.Proofs.YtnccenbkpocjgaaGreat
open Go
section
variable {P : Program} {ops : Array Oper} {Q : Exit → Act → World → Prop} {md : Region.Mode} {S : World → Prop} {z : Nat}
def wpAnyZ (P : Program) (md : Region.Mode) (ops : Array Oper) (Q : Exit → Act → World → Prop) (S : World → Prop) (z : Nat) : Nat → Array Bool → Act → World → Prop
 | 0, listed, a, w => Region.ready md ops listed = [] ∧ Q .normal a w
 | fuel + 1, listed, a, w =>
  (Region.ready md ops listed = [] → Q .normal a w) ∧
  ∀ i ∈ Region.ready md ops listed, wpOp P ops Q i (fun a' w' => (i ≠ z → S w') ∧ wpAnyZ P md ops Q S z fuel (listed.setIfInBounds i true) a' w') a w
theorem wpAny_of_z : ∀ (fuel : Nat) (listed : Array Bool) (a : Act) (w : World), wpAnyZ P md ops Q S z fuel listed a w → wpAny P md ops Q fuel listed a w
 | 0, _, _, _, h => h
 | fuel + 1, _, _, _, h => ⟨h.1, fun i hi => wpOp_mono (fun a' w' h' => wpAny_of_z fuel _ a' w' h'.2) (h.2 i hi)⟩
def chainB (md : Region.Mode) (ops : Array Oper) (i : Nat) : Nat → List Nat → Bool
 | z, [] => z == i
 | z, p :: ps => ((ops[z]?).map fun o => o.after.any fun e => Region.binds md e && e.on == p).getD false && chainB md ops i p ps
theorem chain_wait {i p : Nat} {ps : List Nat} {listed : Array Bool} (h : chainB md ops i z (p :: ps) = true) (hp : listed.getD p true = false) : z ∉ Region.ready md ops listed := by
 intro hz
 obtain ⟨_, o, ho, hall⟩ := mem_ready.1 hz
 simp only [chainB, ho, Option.map_some, Option.getD_some, Bool.and_eq_true] at h
 obtain ⟨e, he, h1⟩ : ∃ e, e ∈ o.after ∧ (Region.binds md e = true ∧ e.on = p) := by
  have h0 := h.1
  simp only [Array.any_eq_true, Bool.and_eq_true, beq_iff_eq] at h0
  obtain ⟨k, hk, h1⟩ := h0
  exact ⟨o.after[k], Array.getElem_mem hk, h1⟩
 have h2 := hall e he h1.1
 rw [h1.2] at h2
 rcases Nat.lt_or_ge p listed.size with h' | h'
 ·simp [h'] at hp h2
  rw [hp] at h2
  cases h2
 ·simp [Array.getElem?_eq_none h'] at h2
theorem chain_mid {i : Nat} {listed : Array Bool} : ∀ (ps : List Nat) (z : Nat), chainB md ops i z ps = true → (∀ p ∈ ps, listed.getD p true = false) → ∀ p ∈ ps, p ≠ i → p ∉ Region.ready md ops listed
 | [], _, _, _, p, hp, _ => by cases hp
 | q :: ps, z, hc, hu, p, hp, hpi => by
  have hc' : chainB md ops i q ps = true := by
   simp only [chainB, Bool.and_eq_true] at hc
   exact hc.2
  rcases List.mem_cons.1 hp with rfl | hp
  ·cases ps with
   | nil => simp only [chainB, beq_iff_eq] at hc'; exact absurd hc' hpi
   | cons r rs => exact chain_wait hc' (hu r (List.mem_cons_of_mem _ List.mem_cons_self))
  ·exact chain_mid ps q hc' (fun p hp => hu p (List.mem_cons_of_mem _ hp)) p hp hpi
theorem wpAnyZ_first {i : Nat} {oi : Oper} {v : Value} {q : Nat} {ps : List Nat} (hi : ops[i]? = some oi) (hsel : ∀ (j : Nat) (o : Oper) cs b, ops[j]? = some o → o.op ≠ .select cs b)
  (hQ : ∀ c a w, Q (.panic c) (a.put oi.dst v) w → Q (.panic c) a w) (hc : chainB md ops i z (q :: ps) = true) :
  ∀ (fuel : Nat) (listed : Array Bool) (a : Act) (w : World),
   (∀ p ∈ q :: ps, listed.getD p true = false) →
   (∀ j oj, ops[j]? = some oj → j ≠ i → listed.getD j true = false → (∀ e ∈ oj.after, Region.binds md e = true → e.on ≠ i) → oi.apart ops oj = true) →
   i ∈ Region.ready md ops listed → YieldsIf P ops S oi v a → S w →
   wpAnyZ P md ops Q S z fuel (listed.setIfInBounds i true) (a.put oi.dst v) w → wpAnyZ P md ops Q S z (fuel + 1) listed a w := by
 intro fuel
 induction fuel with
 | zero =>
  intro listed a w hu _ hr hy hS H
  refine ⟨fun h => (by rw [h] at hr; cases hr), fun j hj => ?_⟩
  by_cases hji : j = i
  ·subst hji; exact hy.wpOp hi hS ⟨fun _ => hS, H⟩
  ·have := ready_mono hj hji
   rw [H.1] at this
   cases this
 | succ fuel ih =>
  intro listed a w hu hfree hr hy hS H
  refine ⟨fun h => (by rw [h] at hr; cases hr), fun j hj => ?_⟩
  by_cases hji : j = i
  ·subst hji; exact hy.wpOp hi hS ⟨fun _ => hS, H⟩
  ·have hjz : j ≠ z := fun e => chain_wait hc (hu q List.mem_cons_self) (e ▸ hj)
   have h1 := H.2 j (ready_mono hj hji)
   obtain ⟨hjun, oj, hoj, hall⟩ := mem_ready.1 hj
   have hnot : ∀ e ∈ oj.after, Region.binds md e = true → e.on ≠ i := fun e he hb heq => by
    have h1 := hall e he hb
    have h0 := (mem_ready.1 hr).1
    rw [heq] at h1
    rcases Nat.lt_or_ge i listed.size with h' | h'
    ·simp [h'] at h0 h1; rw [h0] at h1; cases h1
    ·simp [Array.getElem?_eq_none h'] at h1
   have h2 := wpOp_putIf hoj (hfree j oj hoj hji hjun hnot) (fun cs b => hsel i oi cs b hi) (fun cs b => hsel j oj cs b hoj) hQ hy h1
   have hfree' : ∀ k ok, ops[k]? = some ok → k ≠ i → (listed.setIfInBounds j true).getD k true = false →
     (∀ e ∈ ok.after, Region.binds md e = true → e.on ≠ i) → oi.apart ops ok = true := fun k ok hk hki hun hno => by
    refine hfree k ok hk hki ?_ hno
    by_cases hjk : j = k
    ·subst hjk; exact hjun
    ·rw [getD_set_ne true hjk] at hun; exact hun
   have hu' : ∀ p ∈ q :: ps, (listed.setIfInBounds j true).getD p true = false := fun p hp => by
    have hjp : j ≠ p := fun e => chain_mid (q :: ps) z hc hu p hp (fun e' => hji (e.trans e')) (e ▸ hj)
    rw [getD_set_ne true hjp]
    exact hu p hp
   refine wpOp_mono (fun a' w' h3 => ⟨fun _ => h3.2.1 hjz, ih (listed.setIfInBounds j true) a' w' hu' hfree' (ready_mono hr (Ne.symm hji)) h3.1 (h3.2.1 hjz) ?_⟩) h2
   rw [Array.setIfInBounds_comm _ _ hji]
   exact h3.2.2
theorem wpAnyZ_take {i : Nat} {oi : Oper} {v : Value} {fuel : Nat} {listed : Array Bool} {a : Act} {w : World} (q : Nat) (ps : List Nat) (hi : ops[i]? = some oi)
  (hs : Region.noSelect ops = true) (hf : Region.free md ops listed i = true) (hr : (Region.ready md ops listed).contains i = true)
  (hc : chainB md ops i z (q :: ps) = true) (hu : (q :: ps).all (fun p => !listed.getD p true) = true)
  (hQ : ∀ c a w, Q (.panic c) (a.put oi.dst v) w → Q (.panic c) a w) (hy : YieldsIf P ops S oi v a) (hS : S w)
  (h : wpAnyZ P md ops Q S z fuel (listed.setIfInBounds i true) (a.put oi.dst v) w) : wpAnyZ P md ops Q S z (fuel + 1) listed a w :=
 wpAnyZ_first hi (Region.noSelect_spec hs) hQ hc fuel listed a w (fun p hp => by have := List.all_eq_true.1 hu p hp; simpa using this) (Region.free_spec hi hf) (by simpa using hr) hy hS h
def AllReadyZ (P : Program) (md : Region.Mode) (ops : Array Oper) (Q : Exit → Act → World → Prop) (S : World → Prop) (z fuel : Nat) (listed : Array Bool) (a : Act) (w : World) (rs : List Nat) : Prop :=
 ∀ i ∈ rs, wpOp P ops Q i (fun a' w' => (i ≠ z → S w') ∧ wpAnyZ P md ops Q S z fuel (listed.setIfInBounds i true) a' w') a w
theorem AllReadyZ.nil {fuel : Nat} {listed : Array Bool} {a : Act} {w : World} : AllReadyZ P md ops Q S z fuel listed a w [] := fun _ h => by cases h
theorem AllReadyZ.cons {fuel : Nat} {listed : Array Bool} {a : Act} {w : World} {i : Nat} {o : Oper} {rs : List Nat} (ho : ops[i]? = some o)
  (h : ∀ K' : Act → World → Prop, Shut (∀ a w, S w → (S w → wpAnyZ P md ops Q S z fuel (listed.setIfInBounds i true) a w) → K' a w) → if Region.wanted o (yielded ops a.tmps) = true then Oper.wp P o a w K' Q else K' (a.put o.dst undef) w)
  (hs : AllReadyZ P md ops Q S z fuel listed a w rs) : AllReadyZ P md ops Q S z fuel listed a w (i :: rs) := fun j hj => by
 rcases List.mem_cons.1 hj with rfl | hj
 ·exact wpOp_step ho (fun K' hK => h K' (fun a w hS hW => hK a w ⟨fun _ => hS, hW hS⟩))
 ·exact hs j hj
theorem AllReadyZ.last {fuel : Nat} {listed : Array Bool} {a : Act} {w : World} {o : Oper} (ho : ops[z]? = some o)
  (h : ∀ K' : Act → World → Prop, Shut (∀ a w, wpAnyZ P md ops Q S z fuel (listed.setIfInBounds z true) a w → K' a w) → if Region.wanted o (yielded ops a.tmps) = true then Oper.wp P o a w K' Q else K' (a.put o.dst undef) w) :
  AllReadyZ P md ops Q S z fuel listed a w [z] := fun j hj => by
 rcases List.mem_cons.1 hj with rfl | hj
 ·exact wpOp_step ho (fun K' hK => h K' (fun a w hW => hK a w ⟨fun e => absurd rfl e, hW⟩))
 ·cases hj
theorem wpAnyZ_ready {rs : List Nat} {fuel : Nat} {listed : Array Bool} {a : Act} {w : World} (hr : Region.ready md ops listed = rs) (hne : rs ≠ [])
  (h : AllReadyZ P md ops Q S z fuel listed a w rs) : wpAnyZ P md ops Q S z (fuel + 1) listed a w := ⟨fun h0 => absurd (hr ▸ h0) hne, hr ▸ h⟩
theorem wpAnyZ_done {listed : Array Bool} {a : Act} {w : World} (hr : Region.ready md ops listed = []) (h : Q .normal a w) :
  ∀ fuel, wpAnyZ P md ops Q S z fuel listed a w
 | 0 => ⟨hr, h⟩
 | _ + 1 => ⟨fun _ => h, by rw [hr]; simp⟩
theorem wp_region_z {id : Nat} {a : Act} {w : World} (z : Nat) (S : World → Prop) (hm : P.follows .mixedOrders = true) (hS : S w.drew)
  (h : S w.drew → wpAnyZ P .any ops Q S z ops.size (Array.replicate ops.size false) a w.drew) : (Code.region id ops true).wp P Q a w :=
 wp_region_any hm (wpAny_of_z _ _ _ _ (h hS))
end
end Go.Proofs.YtnccenbkpocjgaaGreat

/- The specification's copy of a state, registers of any number. -/
namespace Go.Proofs.YtnccenbkpocjgaaGreat
open Go.RowKit
theorem tzPOwS {P : Program} {md : Region.Mode} {ops : Array Oper} {Q : Exit → Act → World → Prop} {S : World → Prop} {z fuel : Nat} {listed : Array Bool} {a : Act} {w : World} (i : Nat) (oi : Oper) (v : Value)
 (h : wpAnyZ P md ops Q S z fuel (listed.setIfInBounds i true) (a.put oi.dst v) w) (hi : ops[i]? = some oi := by rfl)
 (hs : Region.noSelect ops = true := by kernel_rfl) (hf : Region.free md ops listed i = true := by kernel_rfl) (hr : (Region.ready md ops listed).contains i = true := by kernel_rfl)
 (hc : chainB md ops i z [i] = true := by kernel_rfl) (hu : [i].all (fun p => !listed.getD p true) = true := by kernel_rfl)
 (hQ : ∀ c a w, Q (.panic c) (a.put oi.dst v) w → Q (.panic c) a w := by exact fun _ _ _ h => h)
 (hy : YieldsIf P ops S oi v a := by exact Or.inl ⟨by rfl, by (intro wX hSw; (try dsimp only at hSw); go_simp; (try exact IntWalk.i64_in _ (by omega)))⟩) (hS : S w := by assumption) : wpAnyZ P md ops Q S z (fuel + 1) listed a w :=
 wpAnyZ_take i [] hi hs hf hr hc hu hQ hy hS h
theorem hidPOwS {p : Prop} (h : p) : Hid p := h
theorem row_lim {w : World} {B : Nat} {e : TypeId} {size n : Nat} {v : Value} {xs : List Value} (h : w.ownsRow B e size v n xs) : ∀ k, v.ownBlock = some k → B ≤ k ∧ k < w.heap.size := fun _ hk => ⟨row_ge h hk, owns_lt h hk⟩
theorem newRow_lim {w w' : World} {B g : Nat} {e : TypeId} {size n : Nat} {v v' : Value} {xs : List Value} (hw : NewRow w v v') (hv : v.ownBlock = some g) (h : w'.ownsRow B e size v' n xs) : ∀ k, v'.ownBlock = some k → k = g ∨ (w.heap.size ≤ k ∧ k < w'.heap.size) := fun k hk => by
 rcases hw with h9 | h9
 ·rw [h9, hv] at hk
  exact .inl (by simpa using hk.symm)
 ·exact .inr ⟨h9 k hk, owns_lt h hk⟩
set_option maxRecDepth 100000 in
set_option maxHeartbeats 8000000 in
theorem l3own_src (x vr : Value) (s : St) (w : World) (hl : s.r.length ≤ 1048577) (hx : x = .agg #[vr, .int .i64 s.q, .int .i64 s.d]) (h : IsD w vr (intsD s.r)) :
  Calls Tryz.prog 87 #[x] w fun r w' => ∃ v, r = .returned (.agg #[v, .int .i64 s.q, .int .i64 s.d]) ∧ w'.ownsRow w.heap.size 3 1 v s.r.length (intCells s.r) ∧ Below w.heap.size w w' := by
 obtain ⟨ar, cr, rfl, _⟩ := IsD.len h
 subst hx
 obtain ⟨i3, hi3, hiz0, hiz1, hiz2⟩ := info_parts info3
 obtain ⟨W0, hW0⟩ : ∃ W0, (w.alloc (.cells #[.slice ar s.r.length cr, .int .i64 s.q, .int .i64 s.d] 29)).alloc (.cells #[.slice none 0 0, .int .i64 0, .int .i64 0] 29) = W0 := ⟨_, rfl⟩
 have hz0 : W0.heap.size = w.heap.size + 1 + 1 := by rw [← hW0]; simp
 have hb0 : Below w.heap.size w W0 := hW0 ▸ ((Below.refl _ w).alloc (Nat.le_refl _) _).alloc (by simp) _
 have HBw := hidPOwS hb0
 have HW0 := hidPOwS hW0
 have BX : Hid (Bk W0 w.heap.size 29 #[.slice ar s.r.length cr, .int .i64 s.q, .int .i64 s.d]) := hW0 ▸ (Bk.new w _ _).alloc _
 have BZ : Hid (Bk W0 (w.heap.size + 1) 29 #[.slice none 0 0, .int .i64 0, .int .i64 0]) := hW0 ▸ Bk.newAt (by simp) _ _
 have D1 := hidPOwS (h.under hb0)
 have hz0' : W0.heap.size ≤ w.heap.size + 1 + 1 ∧ w.heap.size + 1 + 1 ≤ W0.heap.size := by omega
 clear hW0 hb0 h hz0
 go_enter Tryz.func87, Tryz.ntmps87
 go_wp2_with fail
 rw [HW0.out]
 clear HW0
 have hzd : W0.drew.heap.size ≤ W0.heap.size ∧ W0.heap.size ≤ W0.drew.heap.size := ⟨Nat.le_refl _, Nat.le_refl _⟩
 have B_0 : Hid (Below W0.heap.size W0 W0.drew) := (Below.refl _ W0).drew
 have X_0 := hidPOwS BX.out.drew
 have Z_0 := hidPOwS BZ.out.drew
 have D1_0 := hidPOwS (D1.out.under (Below.refl _ W0).drew)
 have Q_0 : Hid (W0.drew.cell? ⟨w.heap.size, 0, none⟩ = some (.slice ar s.r.length cr) ∧ W0.drew.cell? ⟨w.heap.size, 1, none⟩ = some (.int .i64 s.q) ∧ W0.drew.cell? ⟨w.heap.size, 2, none⟩ = some (.int .i64 s.d)) := ⟨X_0.out.cell rfl, X_0.out.cell rfl, X_0.out.cell rfl⟩
 refine wp_region_z 9 (fun W => W.cell? ⟨w.heap.size, 0, none⟩ = some (.slice ar s.r.length cr) ∧ W.cell? ⟨w.heap.size, 1, none⟩ = some (.int .i64 s.q) ∧ W.cell? ⟨w.heap.size, 2, none⟩ = some (.int .i64 s.d)) (by kernel_rfl) Q_0.out (fun hHeld => ?_)
 refine tzPOwS 1 { dst := some 4, op := Op.fieldAddr 29 (Operand.tmp 1) 0, type := 0, pos := _, after := _, guard := none } (.pointer (some ⟨w.heap.size, 0, none⟩)) ?_
 try simp only [Act.put, List.setIfInBounds_toArray, List.set_cons_zero, List.set_cons_succ]
 refine tzPOwS 2 { dst := some 5, op := Op.load 22 (Operand.tmp 4), type := 22, pos := _, after := _, guard := none } (.slice ar s.r.length cr) ?_
 try simp only [Act.put, List.setIfInBounds_toArray, List.set_cons_zero, List.set_cons_succ]
 refine tzPOwS 4 { dst := some 7, op := Op.fieldAddr 29 (Operand.tmp 1) 1, type := 0, pos := _, after := _, guard := none } (.pointer (some ⟨w.heap.size, 1, none⟩)) ?_
 try simp only [Act.put, List.setIfInBounds_toArray, List.set_cons_zero, List.set_cons_succ]
 refine tzPOwS 5 { dst := some 8, op := Op.load 3 (Operand.tmp 7), type := 3, pos := _, after := _, guard := none } (.int .i64 s.q) ?_
 try simp only [Act.put, List.setIfInBounds_toArray, List.set_cons_zero, List.set_cons_succ]
 refine tzPOwS 6 { dst := some 9, op := Op.fieldAddr 29 (Operand.tmp 1) 2, type := 0, pos := _, after := _, guard := none } (.pointer (some ⟨w.heap.size, 2, none⟩)) ?_
 try simp only [Act.put, List.setIfInBounds_toArray, List.set_cons_zero, List.set_cons_succ]
 refine tzPOwS 7 { dst := some 10, op := Op.load 3 (Operand.tmp 9), type := 3, pos := _, after := _, guard := none } (.int .i64 s.d) ?_
 try simp only [Act.put, List.setIfInBounds_toArray, List.set_cons_zero, List.set_cons_succ]
 refine wpAnyZ_ready (rs := [0]) (by kernel_rfl) (by simp) ?_
 refine AllReadyZ.cons (o := { dst := some 3, op := Op.buildSlice 22 0 #[], type := 22, pos := _, after := _, guard := none }) rfl (fun K hK => ?_) AllReadyZ.nil
 obtain ⟨g8, hg8⟩ : ∃ g, g = W0.heap.size := ⟨_, rfl⟩
 obtain ⟨w1, hw1⟩ : ∃ V, (W0.alloc (.cells #[] 3)).drew = V := ⟨_, rfl⟩
 have HW1 := hidPOwS hw1
 have HG8 : Hid (g8 = W0.heap.size) := hg8
 have B_2 : Hid (Below W0.heap.size W0 w1) := by (rw [← hw1]; exact B_0.out.alloc B_0.out.size _)
 have X_2 : Hid (Bk w1 w.heap.size 29 #[.slice ar s.r.length cr, .int .i64 s.q, .int .i64 s.d]) := by (rw [← hw1]; exact X_0.out.alloc _)
 have Z_2 : Hid (Bk w1 (w.heap.size + 1) 29 #[.slice none 0 0, .int .i64 0, .int .i64 0]) := by (rw [← hw1]; exact Z_0.out.alloc _)
 have D1_2 : Hid (IsD w1 (.slice ar s.r.length cr) (intsD s.r)) := by (rw [← hw1]; exact D1_0.out.under ((Below.refl _ _).alloc (Nat.le_refl _) _))
 clear B_0 X_0 Z_0 D1_0
 have E_2 : Hid (w1.ownsRow W0.heap.size 3 1 (.slice (some ⟨g8, 0, none⟩) 0 0) 0 []) := by (rw [← hw1, hg8]; exact row_empty_any W0 3 1)
 have hz1 : g8 < w1.heap.size := by (rw [← hw1, hg8]; exact (Bk.new W0 3 #[]).lt)
 have hzy1 : W0.heap.size ≤ g8 ∧ g8 ≤ W0.heap.size := by omega
 clear hw1 hg8
 go_simp
 rw [HW1.out, ← HG8.out]
 have Q_2 : Hid (w1.cell? ⟨w.heap.size, 0, none⟩ = some (.slice ar s.r.length cr) ∧ w1.cell? ⟨w.heap.size, 1, none⟩ = some (.int .i64 s.q) ∧ w1.cell? ⟨w.heap.size, 2, none⟩ = some (.int .i64 s.d)) := ⟨X_2.out.cell rfl, X_2.out.cell rfl, X_2.out.cell rfl⟩
 refine hK.out _ _ Q_2.out (fun hHeld => ?_)
 clear hK K
 try simp only [Act.put, List.setIfInBounds_toArray, List.set_cons_zero, List.set_cons_succ]
 refine wpAnyZ_ready (rs := [3]) (by kernel_rfl) (by simp) ?_
 refine AllReadyZ.cons (o := { dst := some 6, op := Op.call { callee := Callee.builtin Builtin.append, args := #[Operand.tmp 3, Operand.tmp 5], argTypes := #[22, 22] }, type := 22, pos := _, after := _, guard := none }) rfl (fun K hK => ?_) AllReadyZ.nil
 refine step_append_src (w := w1) rfl (.tmp 3) (.tmp 5) 22 rfl W0.heap.size 3 i3 (.int .i64 0) 1 8 Tryz.underlying22 hi3 hiz0 hiz1 hiz2 rfl (by decide) (.slice (some ⟨g8, 0, none⟩) 0 0) 0 [] rfl E_2.out (.slice ar s.r.length cr) s.r.length (intCells s.r) rfl D1_2.out.srcI (intCells_ones _) (by unfold maxLen; omega) (by omega) B_2.out.size ?_
 intro va w3 hown hgrow hnew
 rw [Nat.zero_add, List.nil_append] at hown
 obtain ⟨av, cv, hva⟩ := owns_slice hown
 subst hva
 have hgt := grown_turns hgrow
 have hS8 : ∀ k, (Value.slice (some ⟨g8, 0, none⟩) 0 0).ownBlock = some k → k = g8 := fun k e => by simpa [Value.ownBlock] using e.symm
 have hz3 : w1.heap.size ≤ w3.heap.size := hgrow.size
 have B_4 := hidPOwS (B_2.out.grown hgrow B_2.out.size (fun k e => by have := hS8 k e; omega))
 have X_4 := hidPOwS (X_2.out.turns hgt (fun e => by have := hS8 _ e; omega))
 have Z_4 := hidPOwS (Z_2.out.turns hgt (fun e => by have := hS8 _ e; omega))
 clear B_2 X_2 Z_2 D1_2 E_2
 have A_4 := hidPOwS hown
 clear hown hgrow hnew hgt hS8
 have Q_4 : Hid (w3.cell? ⟨w.heap.size, 0, none⟩ = some (.slice ar s.r.length cr) ∧ w3.cell? ⟨w.heap.size, 1, none⟩ = some (.int .i64 s.q) ∧ w3.cell? ⟨w.heap.size, 2, none⟩ = some (.int .i64 s.d)) := ⟨X_4.out.cell rfl, X_4.out.cell rfl, X_4.out.cell rfl⟩
 refine hK.out _ _ Q_4.out (fun hHeld => ?_)
 clear hK K
 try simp only [Act.put, List.setIfInBounds_toArray, List.set_cons_zero, List.set_cons_succ]
 refine tzPOwS 8 { dst := some 11, op := Op.build 29 #[(0, Operand.tmp 6), (1, Operand.tmp 8), (2, Operand.tmp 10)], type := 29, pos := _, after := _, guard := none } (.agg #[.slice av s.r.length cv, .int .i64 s.q, .int .i64 s.d]) ?_
 try simp only [Act.put, List.setIfInBounds_toArray, List.set_cons_zero, List.set_cons_succ]
 refine wpAnyZ_ready (rs := [9]) (by kernel_rfl) (by simp) ?_
 refine AllReadyZ.last (o := { dst := none, op := Op.store 29 (Operand.tmp 2) (Operand.tmp 11), type := 0, pos := _, after := _, guard := none }) rfl (fun K hK => ?_)
 have q0 := Z_4.out.cell (i := 0) rfl
 have q1 := Z_4.out.cell (i := 1) rfl
 have q2 := Z_4.out.cell (i := 2) rfl
 have qf := Z_4.out.free
 go_simp
 clear qf q0 q1 q2
 refine hK.out _ _ ?_
 clear hK K
 try simp only [Act.put, List.setIfInBounds_toArray, List.set_cons_zero, List.set_cons_succ]
 refine wpAnyZ_done (by kernel_rfl) ?_ _
 obtain ⟨X5, hX5⟩ : ∃ X5, put3s w3 (w.heap.size + 1) (.slice av s.r.length cv) (.int .i64 s.q) (.int .i64 s.d) = X5 := ⟨_, rfl⟩
 have hP := Z_4.out.put3s (.slice av s.r.length cv) (.int .i64 s.q) (.int .i64 s.d)
 have ht := put3s_turns w3 (w.heap.size + 1) (.slice av s.r.length cv) (.int .i64 s.q) (.int .i64 s.d)
 rw [hX5] at hP ht
 unfold put3s at hX5
 rw [hX5]
 clear hX5
 go_wp2
 have t0 := hP.cell (i := 0) rfl
 have t1 := hP.cell (i := 1) rfl
 have t2 := hP.cell (i := 2) rfl
 refine bodyPost_ret (v := .agg #[.slice av s.r.length cv, .int .i64 s.q, .int .i64 s.d]) (by simp [results, Tryz.results87, go_sem, t0, t1, t2]) rfl ⟨_, rfl, owns_mono (owns_turns A_4.out ht (fun k hk e => by have := row_ge A_4.out hk; omega)) (by omega), (HBw.out.trans (B_4.out.mono (by omega))).trans (ht.to_below (fun k e => by omega) (by have := B_4.out.size; omega))⟩
end Go.Proofs.YtnccenbkpocjgaaGreat

