/- MOkM, SOf -/
import Derived.Test.YthfhibnnkpbeiaaGreatExactKernelNewG21
import Derived.Test.YthfhibnnkpbeiaaGreatExactKernelNewLMOkS
import Derived.Test.YthfhibnnkpbeiaaGreatExactKernelNewG06
/- The program's ModelOk. -/
namespace Go.Proofs.YthfhibnnkpbeiaaGreat
open Go.RowKit
theorem ok_parts (m : Md) : m.ok = ((decide (1 ≤ m.n) && decide (m.n ≤ 4)) && ((decide (0 ≤ m.s) && decide (m.s ≤ 65535)) && ((decide (0 ≤ m.z) && decide (m.z ≤ 950)) && ((decide ((m.i.length : Int) = m.n) && m.okI) && ((decide (1 ≤ m.h.length ∧ m.h.length ≤ 4) && m.okH) && (decide (m.e.length ≤ 6) && m.okE)))))) := by
 unfold Md.ok
 rw [Bool.eq_iff_iff]
 simp only [Bool.and_eq_true, decide_eq_true_eq]
 unfold Md.hd
 constructor
 ·rintro ⟨⟨⟨⟨h1, h2, h3, h4, h5, h6, h7, h8, h9, h10⟩, hi⟩, hh⟩, he⟩
  exact ⟨⟨h1, h2⟩, ⟨h3, h4⟩, ⟨h9, h10⟩, ⟨h5, hi⟩, ⟨⟨h6, h7⟩, hh⟩, h8, he⟩
 ·rintro ⟨⟨h1, h2⟩, ⟨h3, h4⟩, ⟨h9, h10⟩, ⟨h5, hi⟩, ⟨⟨h6, h7⟩, hh⟩, h8, he⟩
  exact ⟨⟨⟨⟨h1, h2, h3, h4, h5, h6, h7, h8, h9, h10⟩, hi⟩, hh⟩, he⟩
set_option maxRecDepth 100000 in
set_option maxHeartbeats 8000000 in
theorem iModM (x : Value) (m : Md) (w : World) (hs : SmallM m) (h : IsM w x m) :
  Calls Tryz.prog 31 #[x] w fun e w' => e = .returned (.bool m.ok) ∧ Below w.heap.size w w' := by
 have HX : Hid (IsM w x m) := h
 obtain ⟨vi, vh, vs, rfl, ⟨ai, ci, rfl, hi1, hi2, hi3⟩, ⟨ah, ch, rfl, hh1, hh2, hh3⟩, ⟨ae, ce, rfl, he1, he2, he3⟩⟩ := h
 have hi0 : m.i.length ≤ 1048576 := hs.i
 have hh0 : m.h.length ≤ 1048576 := hs.h
 have he0 : m.e.length ≤ 1048576 := hs.e
 have HS : Hid (SmallM m) := hs
 clear hs hi1 hi2 hh1 hh2 he1 he2
 clear hi3 hh3 he3 hi0 hh0 he0
 obtain ⟨W0, hW0⟩ : ∃ W0, w.alloc (.cells #[.int .i64 m.n, .int .i64 m.s, .slice ai m.i.length ci, .slice ah m.h.length ch, .slice ae m.e.length ce, .int .i64 m.z] 31) = W0 := ⟨_, rfl⟩
 have HB0 : Hid (Below w.heap.size w W0) := by rw [← hW0]; exact (Below.refl _ w).alloc (Nat.le_refl _) _
 have HP0 : Hid (Bk W0 w.heap.size 31 #[.int .i64 m.n, .int .i64 m.s, .slice ai m.i.length ci, .slice ah m.h.length ch, .slice ae m.e.length ce, .int .i64 m.z]) := by rw [← hW0]; exact Bk.new w _ _
 have p0 := HP0.out.cell (i := 0) rfl
 have p1 := HP0.out.cell (i := 1) rfl
 have p2 := HP0.out.cell (i := 2) rfl
 have p3 := HP0.out.cell (i := 3) rfl
 have p4 := HP0.out.cell (i := 4) rfl
 have p5 := HP0.out.cell (i := 5) rfl
 have HOK : Hid (m.ok = ((decide (1 ≤ m.n) && decide (m.n ≤ 4)) && ((decide (0 ≤ m.s) && decide (m.s ≤ 65535)) && ((decide (0 ≤ m.z) && decide (m.z ≤ 950)) && ((decide ((m.i.length : Int) = m.n) && m.okI) && ((decide (1 ≤ m.h.length ∧ m.h.length ≤ 4) && m.okH) && (decide (m.e.length ≤ 6) && m.okE))))))) := ok_parts m
 generalize m.ok = okv at HOK ⊢
 go_enter Tryz.func31, Tryz.ntmps31
 go_wp2_with fail
 clear hW0
 refine (within_any _ _ _ _).mono ?_
 rintro e w2 ⟨rfl, hw⟩
 have hw' := hw.symm
 clear hw
 subst hw'
 cases hA0 : (decide (1 ≤ m.n) && decide (m.n ≤ 4))
 case false =>
  have hno : okv = false := by rw [HOK.out, hA0]; simp
  subst hno
  clear hA0
  go_wp2
  go_ret
  exact ⟨rfl, HB0.out⟩
 have HA0 : Hid ((decide (1 ≤ m.n) && decide (m.n ≤ 4)) = true) := hA0
 clear hA0
 go_wp2_with fail
 refine (within_any _ _ _ _).mono ?_
 rintro e w2 ⟨rfl, hw⟩
 have hw' := hw.symm
 clear hw
 subst hw'
 cases hA1 : (decide (0 ≤ m.s) && decide (m.s ≤ 65535))
 case false =>
  have hno : okv = false := by rw [HOK.out, hA1]; simp
  subst hno
  clear hA1
  go_wp2
  go_ret
  exact ⟨rfl, HB0.out⟩
 have HA1 : Hid ((decide (0 ≤ m.s) && decide (m.s ≤ 65535)) = true) := hA1
 clear hA1
 go_wp2_with fail
 refine (within_any _ _ _ _).mono ?_
 rintro e w2 ⟨rfl, hw⟩
 have hw' := hw.symm
 clear hw
 subst hw'
 cases hA2 : (decide (0 ≤ m.z) && decide (m.z ≤ 950))
 case false =>
  have hno : okv = false := by rw [HOK.out, hA2]; simp
  subst hno
  clear hA2
  go_wp2
  go_ret
  exact ⟨rfl, HB0.out⟩
 have HA2 : Hid ((decide (0 ≤ m.z) && decide (m.z ≤ 950)) = true) := hA2
 clear hA2
 go_wp2_with fail
 refine (initOk_any _ m _ HS.out (HX.out.below HB0.out)).mono ?_
 rintro e w3 ⟨rfl, hb⟩
 have HB3 : Hid (Below w.heap.size w w3) := HB0.out.trans (hb.mono HB0.out.size)
 have HP3 : Hid (Bk w3 w.heap.size 31 #[.int .i64 m.n, .int .i64 m.s, .slice ai m.i.length ci, .slice ah m.h.length ch, .slice ae m.e.length ce, .int .i64 m.z]) := HP0.out.below hb
 clear hb HB0 HP0 p0 p1 p2 p3 p4 p5
 have p0 := HP3.out.cell (i := 0) rfl
 have p1 := HP3.out.cell (i := 1) rfl
 have p2 := HP3.out.cell (i := 2) rfl
 have p3 := HP3.out.cell (i := 3) rfl
 have p4 := HP3.out.cell (i := 4) rfl
 have p5 := HP3.out.cell (i := 5) rfl
 cases hA3 : (decide ((m.i.length : Int) = m.n) && m.okI)
 case false =>
  have hno : okv = false := by rw [HOK.out, hA3]; simp
  subst hno
  clear hA3
  go_wp2
  go_ret
  exact ⟨rfl, HB3.out⟩
 have HA3 : Hid ((decide ((m.i.length : Int) = m.n) && m.okI) = true) := hA3
 clear hA3
 go_wp2_with fail
 refine (handlersOk_any _ m _ HS.out (HX.out.below HB3.out)).mono ?_
 rintro e w4 ⟨rfl, hb⟩
 have HB4 : Hid (Below w.heap.size w w4) := HB3.out.trans (hb.mono HB3.out.size)
 have HP4 : Hid (Bk w4 w.heap.size 31 #[.int .i64 m.n, .int .i64 m.s, .slice ai m.i.length ci, .slice ah m.h.length ch, .slice ae m.e.length ce, .int .i64 m.z]) := HP3.out.below hb
 clear hb HB3 HP3 p0 p1 p2 p3 p4 p5
 have p0 := HP4.out.cell (i := 0) rfl
 have p1 := HP4.out.cell (i := 1) rfl
 have p2 := HP4.out.cell (i := 2) rfl
 have p3 := HP4.out.cell (i := 3) rfl
 have p4 := HP4.out.cell (i := 4) rfl
 have p5 := HP4.out.cell (i := 5) rfl
 cases hA4 : (decide (1 ≤ m.h.length ∧ m.h.length ≤ 4) && m.okH)
 case false =>
  have hno : okv = false := by rw [HOK.out, hA4]; simp
  subst hno
  clear hA4
  go_wp2
  go_ret
  exact ⟨rfl, HB4.out⟩
 have HA4 : Hid ((decide (1 ≤ m.h.length ∧ m.h.length ≤ 4) && m.okH) = true) := hA4
 clear hA4
 go_wp2_with fail
 refine (startOk_any _ m _ HS.out (HX.out.below HB4.out)).mono ?_
 rintro e w5 ⟨rfl, hb⟩
 have HB5 : Hid (Below w.heap.size w w5) := HB4.out.trans (hb.mono HB4.out.size)
 have HP5 : Hid (Bk w5 w.heap.size 31 #[.int .i64 m.n, .int .i64 m.s, .slice ai m.i.length ci, .slice ah m.h.length ch, .slice ae m.e.length ce, .int .i64 m.z]) := HP4.out.below hb
 clear hb HB4 HP4 p0 p1 p2 p3 p4 p5
 have hy : okv = (decide (m.e.length ≤ 6) && m.okE) := by rw [HOK.out, HA0.out, HA1.out, HA2.out, HA3.out, HA4.out]; simp
 subst hy
 clear HOK
 go_wp2
 go_ret
 exact ⟨rfl, HB5.out⟩
end Go.Proofs.YthfhibnnkpbeiaaGreat

/- Both StateOf. -/
namespace Go.Proofs.YthfhibnnkpbeiaaGreat
open Go.RowKit
def isPart (m : Md) (lp : Int) : Bool := decide (0 ≤ lp) && decide (lp < m.n)
def firstS (m : Md) (lp : Int) : St := ⟨[intAt m.i lp.toNat, 0], 0, 0⟩
def zeroS : St := ⟨[], 0, 0⟩
def stateOfR (m : Md) (lp : Int) : St := if (m.ok && isPart m lp) = true then firstS m lp else zeroS
theorem ok_init {m : Md} (h : m.ok = true) : (m.i.length : Int) = m.n := by
 simp only [Md.ok, Bool.and_eq_true, decide_eq_true_eq] at h
 exact h.1.1.1.2.2.2.2.1
theorem Bk.rowF {w : World} {P : Nat} {l : List Int} (hl : l.length ≤ maxLen) (h : Bk w P 3 (intCells l).toArray) : RowF (fun k => k = P) w (sl P l.length) l.length 1 (intCells l) := by
 refine ⟨by simp [intCells], _, _, rfl, Nat.le_refl _, hl, .inr ⟨P, rfl, rfl, h.lt, fun j hj => ⟨?_, h.free j⟩⟩⟩
 have hj' : j < (intCells l).length := by simp [intCells]; omega
 rw [h.cell (i := j) (v := (intCells l)[j]) (by simp [hj'])]
 simp [hj']
theorem made2 {w1 : World} {B C : Nat} (h : w1.ownsRow C 3 1 (.slice (some ⟨B, 0, none⟩) 2 2) 2 (madeCells (Value.int .i64 0).cells (2 * 1)).toList) : Bk w1 B 3 #[.int .i64 0, .int .i64 0] := by
 obtain ⟨hl, h | ⟨g, cap, cur, e, hg, hc, h1, h2, h3, h4⟩⟩ := h
 ·simp at h
 ·simp at e
  obtain ⟨rfl, rfl⟩ := e
  have h5 : cur.toList = (madeCells (Value.int .i64 0).cells (2 * 1)).toList := by
   rw [← h4, List.take_of_length_le (by simp; omega)]
  have h6 : (madeCells (Value.int .i64 0).cells (2 * 1)).toList = [.int .i64 0, .int .i64 0] := by kernel_rfl
  rw [h6] at h5
  unfold Bk
  rw [hc, show cur = #[.int .i64 0, .int .i64 0] from Array.toList_inj.1 h5]
set_option maxRecDepth 100000 in
set_option maxHeartbeats 4000000 in
theorem sBegin (x : Value) (m : Md) (lp : Nat) (w : World) (hlp : lp < m.i.length) (h : IsM w x m) :
  Calls Tryz.prog 94 #[x, .int .i64 lp] w fun e w' => ∃ y, e = .returned y ∧ Below w.heap.size w w' ∧ StF (fun k => w.heap.size ≤ k ∧ k < w'.heap.size) w' y ⟨[intAt m.i lp, 0], 0, 0⟩ := by
 obtain ⟨vi, vh, vs, rfl, ⟨ai, ci, rfl, hi1, hi2, hi3⟩, ⟨ah, ch, rfl, _⟩, ⟨ae, ce, rfl, _⟩⟩ := h
 obtain ⟨b, off, rfl, hb, hc⟩ := hi3.resolve_left (by intro e; rw [e] at hlp; simp at hlp)
 have f0 := hc lp hlp
 clear hc hi3
 go_enter Tryz.func94, Tryz.ntmps94
 go_wp2
 generalize intAt m.i lp = y
 obtain ⟨X, hX⟩ : ∃ X, (((w.alloc (.cells #[.int .i64 m.n, .int .i64 m.s, .slice (some ⟨b, off, none⟩) m.i.length ci, .slice ah m.h.length ch, .slice ae m.e.length ce, .int .i64 m.z] 31)).alloc (.cells #[sl (w.heap.size + 1 + 1) 2, .int .i64 0, .int .i64 0] 67)).alloc (.cells #[.int .i64 y, .int .i64 0] 3)) = X := ⟨_, rfl⟩
 have hR : Bk X (w.heap.size + 1) 67 #[sl (w.heap.size + 1 + 1) 2, .int .i64 0, .int .i64 0] := by rw [← hX]; exact (Bk.newAt (by simp) _ _).alloc _
 have hN : Bk X (w.heap.size + 1 + 1) 3 #[.int .i64 y, .int .i64 0] := by rw [← hX]; exact Bk.newAt (by simp) _ _
 have hB : Below w.heap.size w X := by rw [← hX]; exact (((Below.refl _ w).alloc (Nat.le_refl _) _).alloc (by simp) _).alloc (by simp; omega) _
 rw [hX]
 have t0 := hR.cell (i := 0) rfl
 have t1 := hR.cell (i := 1) rfl
 have t2 := hR.cell (i := 2) rfl
 refine bodyPost_ret (v := .agg #[sl (w.heap.size + 1 + 1) 2, .int .i64 0, .int .i64 0]) (by simp [results, Tryz.results94, go_sem, t0, t1, t2]) rfl ⟨_, rfl, hB, _, rfl, ?_⟩
 have hlt := hN.lt
 exact (Bk.rowF (l := [y, 0]) (by unfold maxLen; simp) hN).mono (fun k e => by omega)
set_option maxRecDepth 100000 in
set_option maxHeartbeats 4000000 in
theorem iBegin (x : Value) (m : Md) (lp : Nat) (w : World) (hlp : lp < m.i.length) (h : IsM w x m) :
  Calls Tryz.prog 102 #[x, .int .i64 lp] w fun e w' => ∃ y, e = .returned y ∧ Below w.heap.size w w' ∧ StF (fun k => w.heap.size ≤ k ∧ k < w'.heap.size) w' y ⟨[intAt m.i lp, 0], 0, 0⟩ := by
 obtain ⟨i0, hi, hz0, hz1, hz2⟩ := info_parts info3
 obtain ⟨vi, vh, vs, rfl, ⟨ai, ci, rfl, hi1, hi2, hi3⟩, ⟨ah, ch, rfl, _⟩, ⟨ae, ce, rfl, _⟩⟩ := h
 obtain ⟨b, off, rfl, hb, hc⟩ := hi3.resolve_left (by intro e; rw [e] at hlp; simp at hlp)
 have f0 := hc lp hlp
 clear hc hi3
 generalize intAt m.i lp = y at f0 ⊢
 obtain ⟨W0, hW0⟩ : ∃ W0, (w.alloc (.cells #[.int .i64 m.n, .int .i64 m.s, .slice (some ⟨b, off, none⟩) m.i.length ci, .slice ah m.h.length ch, .slice ae m.e.length ce, .int .i64 m.z] 31)).alloc (.cells #[.slice none 0 0, .int .i64 0, .int .i64 0] 67) = W0 := ⟨_, rfl⟩
 have HP0 : Hid (Bk W0 w.heap.size 31 #[.int .i64 m.n, .int .i64 m.s, .slice (some ⟨b, off, none⟩) m.i.length ci, .slice ah m.h.length ch, .slice ae m.e.length ce, .int .i64 m.z]) := by rw [← hW0]; exact (Bk.new _ _ _).alloc _
 have HR0 : Hid (Bk W0 (w.heap.size + 1) 67 #[.slice none 0 0, .int .i64 0, .int .i64 0]) := by rw [← hW0]; exact Bk.newAt (by simp) _ _
 have HB0 : Hid (Below w.heap.size w W0) := by rw [← hW0]; exact ((Below.refl _ w).alloc (Nat.le_refl _) _).alloc (by simp) _
 have hsz : W0.heap.size = w.heap.size + 1 + 1 := by rw [← hW0]; simp
 have HSZ : Hid (W0.heap.size = w.heap.size + 1 + 1) := hsz
 clear hsz
 go_enter Tryz.func102, Tryz.ntmps102
 go_wp2_with (at_make; refine wpList_make_full W0 rfl _ _ 22 rfl W0.heap.size 3 i0 _ 1 Tryz.underlying22 hi hz0 hz1 .i64 .i64 2 2 2 rfl rfl rfl rfl (by rw [hz2]; omega) (by unfold maxLen; omega) (Nat.le_refl _) ?_; intro w1 hown hgrow; have hN1 : Bk w1 W0.heap.size 3 #[.int .i64 0, .int .i64 0] := made2 hown; have hB1 : Below W0.heap.size W0 w1 := (Below.refl _ _).grown hgrow (Nat.le_refl _) (fun k e => by cases e); have hR1 := HR0.out.below hB1; have hP1 := HP0.out.below hB1; have p2 := hP1.cell (i := 2) rfl; have n0 := hN1.cell (i := 0) rfl; have nf := hN1.free; have f1 := (hB1.cell (p := ⟨b, off + lp, none⟩) (by have := HB0.out.size; show b < W0.heap.size; omega)).trans ((HB0.out.cell (p := ⟨b, off + lp, none⟩) hb).trans f0); obtain ⟨X1, hX1⟩ : ∃ X1, w1.setCell ⟨W0.heap.size, 0, none⟩ (.int .i64 y) = X1 := ⟨_, rfl⟩; have hR2 : Bk X1 (w.heap.size + 1) 67 #[.slice none 0 0, .int .i64 0, .int .i64 0] := hX1 ▸ hR1.other 0 _ (by have := HSZ.out; omega); have hN2 : Bk X1 W0.heap.size 3 #[.int .i64 y, .int .i64 0] := hX1 ▸ hN1.put 0 _; have hB2 : Below w.heap.size w X1 := (HB0.out.trans (hB1.mono HB0.out.size)).trans (by rw [← hX1]; exact (Below.refl _ _).setCell (p := ⟨W0.heap.size, 0, none⟩) HB0.out.size _); have r0 := hR2.cell (i := 0) rfl; have r1 := hR2.cell (i := 1) rfl; have r2 := hR2.cell (i := 2) rfl; have rf := hR2.free; have HR2 : Hid (Bk X1 (w.heap.size + 1) 67 #[.slice none 0 0, .int .i64 0, .int .i64 0]) := hR2; have HN2 : Hid (Bk X1 W0.heap.size 3 #[.int .i64 y, .int .i64 0]) := hN2; have HB2 : Hid (Below w.heap.size w X1) := hB2; clear hR1 hP1 hN1 hB1 hR2 hN2 hB2 hown hgrow)
 clear r0 r1 r2 rf p2 n0 nf f1 f0
 obtain ⟨X5, hX5⟩ : ∃ X5, put3 X1 (w.heap.size + 1) (sl W0.heap.size 2) (.int .i64 0) (.int .i64 0) = X5 := ⟨_, rfl⟩
 have hR := HR2.out.put3 (sl W0.heap.size 2) (.int .i64 0) (.int .i64 0)
 have ht := put3_turns X1 (w.heap.size + 1) (sl W0.heap.size 2) (.int .i64 0) (.int .i64 0)
 rw [hX5] at hR ht
 unfold put3 at hX5
 rw [hX5]
 have t0 := hR.cell (i := 0) rfl
 have t1 := hR.cell (i := 1) rfl
 have t2 := hR.cell (i := 2) rfl
 have hs1 := HB0.out.size
 have hs2 := HB2.out.size
 have hs3 := HSZ.out
 have hs4 := ht.size
 have hs5 := HN2.out.lt
 refine bodyPost_ret (v := .agg #[sl W0.heap.size 2, .int .i64 0, .int .i64 0]) (by simp [results, Tryz.results102, go_sem, t0, t1, t2]) rfl ⟨_, rfl, HB2.out.trans (ht.to_below (fun k e => by omega) (by omega)), _, rfl, ?_⟩
 exact ((Bk.rowF (l := [y, 0]) (by unfold maxLen; simp) HN2.out).turns ht (fun k e => by omega)).mono (fun k e => by omega)
set_option maxRecDepth 100000 in
set_option maxHeartbeats 4000000 in
theorem iStateOf (x : Value) (m : Md) (lp : Int) (w : World) (hs : SmallM m) (h : IsM w x m) :
  Calls Tryz.prog 79 #[x, .int .i64 lp] w fun e w' => ∃ y, e = .returned (.tuple #[y, .bool (m.ok && isPart m lp)]) ∧ Below w.heap.size w w' ∧ StF (fun k => w.heap.size ≤ k ∧ k < w'.heap.size) w' y (stateOfR m lp) := by
 have HX : Hid (IsM w x m) := h
 have HS : Hid (SmallM m) := hs
 obtain ⟨vi, vh, vs, rfl, ⟨ai, ci, rfl, _⟩, ⟨ah, ch, rfl, _⟩, ⟨ae, ce, rfl, _⟩⟩ := h
 obtain ⟨W0, hW0⟩ : ∃ W0, (w.alloc (.cells #[.int .i64 m.n, .int .i64 m.s, .slice ai m.i.length ci, .slice ah m.h.length ch, .slice ae m.e.length ce, .int .i64 m.z] 31)).alloc (.cells #[.slice none 0 0, .int .i64 0, .int .i64 0] 67) = W0 := ⟨_, rfl⟩
 have HP0 : Hid (Bk W0 w.heap.size 31 #[.int .i64 m.n, .int .i64 m.s, .slice ai m.i.length ci, .slice ah m.h.length ch, .slice ae m.e.length ce, .int .i64 m.z]) := by rw [← hW0]; exact (Bk.new _ _ _).alloc _
 have HR0 : Hid (Bk W0 (w.heap.size + 1) 67 #[.slice none 0 0, .int .i64 0, .int .i64 0]) := by rw [← hW0]; exact Bk.newAt (by simp) _ _
 have HB0 : Hid (Below w.heap.size w W0) := by rw [← hW0]; exact ((Below.refl _ w).alloc (Nat.le_refl _) _).alloc (by simp) _
 have p0 := HP0.out.cell (i := 0) rfl
 have p1 := HP0.out.cell (i := 1) rfl
 have p2 := HP0.out.cell (i := 2) rfl
 have p3 := HP0.out.cell (i := 3) rfl
 have p4 := HP0.out.cell (i := 4) rfl
 have p5 := HP0.out.cell (i := 5) rfl
 clear hs
 go_enter Tryz.func79, Tryz.ntmps79
 go_wp2_with fail
 clear hW0 p0 p1 p2 p3 p4 p5
 refine (iModM _ m _ HS.out (HX.out.below HB0.out)).mono ?_
 rintro e w1 ⟨rfl, hb⟩
 have HB1 : Hid (Below w.heap.size w w1) := HB0.out.trans (hb.mono HB0.out.size)
 have HP1 : Hid (Bk w1 w.heap.size 31 #[.int .i64 m.n, .int .i64 m.s, .slice ai m.i.length ci, .slice ah m.h.length ch, .slice ae m.e.length ce, .int .i64 m.z]) := HP0.out.below hb
 have HR1 : Hid (Bk w1 (w.heap.size + 1) 67 #[.slice none 0 0, .int .i64 0, .int .i64 0]) := HR0.out.below hb
 have HX1 : Hid (IsM w1 (.agg #[.int .i64 m.n, .int .i64 m.s, .slice ai m.i.length ci, .slice ah m.h.length ch, .slice ae m.e.length ce, .int .i64 m.z]) m) := HX.out.below HB1.out
 have r0 := HR1.out.cell (i := 0) rfl
 have r1 := HR1.out.cell (i := 1) rfl
 have r2 := HR1.out.cell (i := 2) rfl
 have rf := HR1.out.free
 clear hb HB0 HP0 HR0 HX
 cases hok : m.ok with
 | false =>
  have HOK : Hid (m.ok = false) := hok
  clear hok
  go_wp2
  clear r0 r1 r2 rf
  obtain ⟨X5, hX5⟩ : ∃ X5, put3 w1 (w.heap.size + 1) (.slice none 0 0) (.int .i64 0) (.int .i64 0) = X5 := ⟨_, rfl⟩
  have hR := HR1.out.put3 (.slice none 0 0) (.int .i64 0) (.int .i64 0)
  have ht := put3_turns w1 (w.heap.size + 1) (.slice none 0 0) (.int .i64 0) (.int .i64 0)
  rw [hX5] at hR ht
  unfold put3 at hX5
  rw [hX5]
  have t0 := hR.cell (i := 0) rfl
  have t1 := hR.cell (i := 1) rfl
  have t2 := hR.cell (i := 2) rfl
  have hno : (m.ok && isPart m lp) = false := by rw [HOK.out]; rfl
  refine bodyPost_ret (v := .tuple #[.agg #[.slice none 0 0, .int .i64 0, .int .i64 0], .bool false]) (by simp [results, Tryz.results79, go_sem, t0, t1, t2]) rfl ⟨_, by rw [hno], HB1.out.trans (ht.to_below (fun k e => by omega) HB1.out.size), ?_⟩
  rw [show stateOfR m lp = zeroS from by simp [stateOfR, hno]]
  exact ⟨_, rfl, rfl, none, 0, rfl, Nat.le_refl _, by unfold maxLen; omega, .inl rfl⟩
 | true =>
  have HOK : Hid (m.ok = true) := hok
  clear hok
  have p0 := HP1.out.cell (i := 0) rfl
  have p1 := HP1.out.cell (i := 1) rfl
  have p2 := HP1.out.cell (i := 2) rfl
  have p3 := HP1.out.cell (i := 3) rfl
  have p4 := HP1.out.cell (i := 4) rfl
  have p5 := HP1.out.cell (i := 5) rfl
  go_wp2_with fail
  clear p0 p1 p2 p3 p4 p5
  refine (place_any _ _ _).mono ?_
  rintro e w2 ⟨rfl, hw⟩
  have hw' := hw.symm
  clear hw
  subst hw'
  by_cases c0 : 0 ≤ lp ∧ lp < m.n
  case neg =>
   have HN : Hid ((m.ok && isPart m lp) = false) := (by rw [HOK.out]; simp [isPart]; omega : (m.ok && isPart m lp) = false)
   rw [show (decide (0 ≤ lp) && decide (lp < m.n)) = false from by simp; omega]
   go_wp2
   clear r0 r1 r2 rf
   obtain ⟨X5, hX5⟩ : ∃ X5, put3 w1 (w.heap.size + 1) (.slice none 0 0) (.int .i64 0) (.int .i64 0) = X5 := ⟨_, rfl⟩
   have hR := HR1.out.put3 (.slice none 0 0) (.int .i64 0) (.int .i64 0)
   have ht := put3_turns w1 (w.heap.size + 1) (.slice none 0 0) (.int .i64 0) (.int .i64 0)
   rw [hX5] at hR ht
   unfold put3 at hX5
   rw [hX5]
   have t0 := hR.cell (i := 0) rfl
   have t1 := hR.cell (i := 1) rfl
   have t2 := hR.cell (i := 2) rfl
   have hno : (m.ok && isPart m lp) = false := HN.out
   refine bodyPost_ret (v := .tuple #[.agg #[.slice none 0 0, .int .i64 0, .int .i64 0], .bool false]) (by simp [results, Tryz.results79, go_sem, t0, t1, t2]) rfl ⟨_, by rw [hno], HB1.out.trans (ht.to_below (fun k e => by omega) HB1.out.size), ?_⟩
   rw [show stateOfR m lp = zeroS from by simp [stateOfR, hno]]
   exact ⟨_, rfl, rfl, none, 0, rfl, Nat.le_refl _, by unfold maxLen; omega, .inl rfl⟩
  case pos =>
   rw [show (decide (0 ≤ lp) && decide (lp < m.n)) = true from by simp; omega]
   have p0 := HP1.out.cell (i := 0) rfl
   have p1 := HP1.out.cell (i := 1) rfl
   have p2 := HP1.out.cell (i := 2) rfl
   have p3 := HP1.out.cell (i := 3) rfl
   have p4 := HP1.out.cell (i := 4) rfl
   have p5 := HP1.out.cell (i := 5) rfl
   go_wp2_with fail
   clear p0 p1 p2 p3 p4 p5
   clear r0 r1 r2 rf
   obtain ⟨k, rfl⟩ : ∃ k : Nat, lp = (k : Int) := ⟨lp.toNat, by omega⟩
   have hk : k < m.i.length := by have := ok_init HOK.out; omega
   refine (iBegin _ m k _ hk (HX1.out)).mono ?_
   rintro e w3 ⟨y, rfl, hb, hy⟩
   have hR2 := HR1.out.below hb
   have r0 := hR2.cell (i := 0) rfl
   have r1 := hR2.cell (i := 1) rfl
   have r2 := hR2.cell (i := 2) rfl
   have rf := hR2.free
   have HB3 : Hid (Below w.heap.size w w3) := HB1.out.trans (hb.mono HB1.out.size)
   have HR3 : Hid (Bk w3 (w.heap.size + 1) 67 #[.slice none 0 0, .int .i64 0, .int .i64 0]) := hR2
   have HY : Hid (StF (fun k => w1.heap.size ≤ k ∧ k < w3.heap.size) w3 y ⟨[intAt m.i k, 0], 0, 0⟩) := hy
   have hlt := HR1.out.lt
   obtain ⟨ay, cy, rfl⟩ := hy.form
   clear hb hR2 hy
   go_wp2
   clear r0 r1 r2 rf
   obtain ⟨X5, hX5⟩ : ∃ X5, put3 w3 (w.heap.size + 1) (.slice ay 2 cy) (.int .i64 0) (.int .i64 0) = X5 := ⟨_, rfl⟩
   have hR := HR3.out.put3 (.slice ay 2 cy) (.int .i64 0) (.int .i64 0)
   have ht := put3_turns w3 (w.heap.size + 1) (.slice ay 2 cy) (.int .i64 0) (.int .i64 0)
   rw [hX5] at hR ht
   unfold put3 at hX5
   rw [hX5]
   have t0 := hR.cell (i := 0) rfl
   have t1 := hR.cell (i := 1) rfl
   have t2 := hR.cell (i := 2) rfl
   have hyes : (m.ok && isPart m k) = true := by simp [HOK.out, isPart]; omega
   have hs1 := HB1.out.size
   have hs2 := ht.size
   have hs3 := HB3.out.size
   refine bodyPost_ret (v := .tuple #[.agg #[.slice ay 2 cy, .int .i64 0, .int .i64 0], .bool true]) (by simp [results, Tryz.results79, go_sem, t0, t1, t2]) rfl ⟨_, by rw [hyes], HB3.out.trans (ht.to_below (fun k e => by omega) HB3.out.size), ?_⟩
   rw [show stateOfR m k = ⟨[intAt m.i k, 0], 0, 0⟩ from by rw [stateOfR, hyes]; simp [firstS]]
   exact (HY.out.turns ht (fun j e => by omega)).mono (fun j e => by omega)
end Go.Proofs.YthfhibnnkpbeiaaGreat

