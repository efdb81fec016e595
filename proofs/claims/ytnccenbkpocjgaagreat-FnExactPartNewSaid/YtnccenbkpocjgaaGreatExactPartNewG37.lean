/- SOf, N4w, NPl -/
import Derived.Test.YtnccenbkpocjgaaGreatExactPartNewG14
import Derived.Test.YtnccenbkpocjgaaGreatExactPartNewLMOkS
import Derived.Test.YtnccenbkpocjgaaGreatExactPartNewG36
import Derived.Test.YtnccenbkpocjgaaGreatExactPartNewLInsG
import Derived.Test.YtnccenbkpocjgaaGreatExactPartNewG30
import Derived.Test.YtnccenbkpocjgaaGreatExactPartNewG21
import Derived.Deep.RegionHeld3
import Derived.Test.YtnccenbkpocjgaaGreatExactPartNewG27
import Derived.Test.YtnccenbkpocjgaaGreatExactPartNewG01
import Derived.Test.YtnccenbkpocjgaaGreatExactPartNewLInsD
import Derived.Test.YtnccenbkpocjgaaGreatExactPartNewG08
import Derived.Laws.OwnMore
import Derived.WalkSmall
import Derived.BigRegion
import Derived.Deep.Cut
/- Both StateOf. -/
namespace Go.Proofs.YtnccenbkpocjgaaGreat
open Go.RowKit
def isPart (m : Md) (lp : Int) : Bool := decide (0 ≤ lp) && decide (lp < m.n)
def firstS (m : Md) (lp : Int) : St := ⟨[intAt m.i lp.toNat, 0], 0, 0⟩
def zeroS : St := ⟨[], 0, 0⟩
def stateOfR (m : Md) (lp : Int) : St := if (m.ok && isPart m lp) = true then firstS m lp else zeroS
theorem ok_init {m : Md} (h : m.ok = true) : (m.i.length : Int) = m.n := by
 simp only [Md.ok, Bool.and_eq_true, decide_eq_true_eq] at h
 exact h.1.1.1.2.2.2.2.1
theorem Bk.rowF {w : World} {P : Nat} {l : List Int} (hl : l.length ≤ maxLen) (h : Bk w P 3 (intCells l).toArray) : RowF (fun k => k = P) w (sl P l.length) l.length 1 (intCells l) := by
 refine ⟨by simp [intCells], _, _, rfl, Nat.le_refl _, hl, .inr ⟨P, rfl, rfl, h.lt, fun j hj => ⟨?_, h.free j⟩⟩⟩
 have hj' : j < (intCells l).length := by simp [intCells]; omega
 rw [h.cell (i := j) (v := (intCells l)[j]) (by simp [hj'])]
 simp [hj']
theorem made2 {w1 : World} {B C : Nat} (h : w1.ownsRow C 3 1 (.slice (some ⟨B, 0, none⟩) 2 2) 2 (madeCells (Value.int .i64 0).cells (2 * 1)).toList) : Bk w1 B 3 #[.int .i64 0, .int .i64 0] := by
 obtain ⟨hl, h | ⟨g, cap, cur, e, hg, hc, h1, h2, h3, h4⟩⟩ := h
 ·simp at h
 ·simp at e
  obtain ⟨rfl, rfl⟩ := e
  have h5 : cur.toList = (madeCells (Value.int .i64 0).cells (2 * 1)).toList := by
   rw [← h4, List.take_of_length_le (by simp; omega)]
  have h6 : (madeCells (Value.int .i64 0).cells (2 * 1)).toList = [.int .i64 0, .int .i64 0] := by kernel_rfl
  rw [h6] at h5
  unfold Bk
  rw [hc, show cur = #[.int .i64 0, .int .i64 0] from Array.toList_inj.1 h5]
set_option maxRecDepth 100000 in
set_option maxHeartbeats 4000000 in
theorem sBegin (x : Value) (m : Md) (lp : Nat) (w : World) (hlp : lp < m.i.length) (h : IsM w x m) :
  Calls Tryz.prog 88 #[x, .int .i64 lp] w fun e w' => ∃ y, e = .returned y ∧ Below w.heap.size w w' ∧ StF (fun k => w.heap.size ≤ k ∧ k < w'.heap.size) w' y ⟨[intAt m.i lp, 0], 0, 0⟩ := by
 obtain ⟨vi, vh, vs, rfl, ⟨ai, ci, rfl, hi1, hi2, hi3⟩, ⟨ah, ch, rfl, _⟩, ⟨ae, ce, rfl, _⟩⟩ := h
 obtain ⟨b, off, rfl, hb, hc⟩ := hi3.resolve_left (by intro e; rw [e] at hlp; simp at hlp)
 have f0 := hc lp hlp
 clear hc hi3
 go_enter Tryz.func88, Tryz.ntmps88
 go_wp2
 generalize intAt m.i lp = y
 obtain ⟨X, hX⟩ : ∃ X, (((w.alloc (.cells #[.int .i64 m.n, .int .i64 m.s, .slice (some ⟨b, off, none⟩) m.i.length ci, .slice ah m.h.length ch, .slice ae m.e.length ce, .int .i64 m.z] 38)).alloc (.cells #[sl (w.heap.size + 1 + 1) 2, .int .i64 0, .int .i64 0] 29)).alloc (.cells #[.int .i64 y, .int .i64 0] 3)) = X := ⟨_, rfl⟩
 have hR : Bk X (w.heap.size + 1) 29 #[sl (w.heap.size + 1 + 1) 2, .int .i64 0, .int .i64 0] := by rw [← hX]; exact (Bk.newAt (by simp) _ _).alloc _
 have hN : Bk X (w.heap.size + 1 + 1) 3 #[.int .i64 y, .int .i64 0] := by rw [← hX]; exact Bk.newAt (by simp) _ _
 have hB : Below w.heap.size w X := by rw [← hX]; exact (((Below.refl _ w).alloc (Nat.le_refl _) _).alloc (by simp) _).alloc (by simp; omega) _
 rw [hX]
 have t0 := hR.cell (i := 0) rfl
 have t1 := hR.cell (i := 1) rfl
 have t2 := hR.cell (i := 2) rfl
 refine bodyPost_ret (v := .agg #[sl (w.heap.size + 1 + 1) 2, .int .i64 0, .int .i64 0]) (by simp [results, Tryz.results88, go_sem, t0, t1, t2]) rfl ⟨_, rfl, hB, _, rfl, ?_⟩
 have hlt := hN.lt
 exact (Bk.rowF (l := [y, 0]) (by unfold maxLen; simp) hN).mono (fun k e => by omega)
set_option maxRecDepth 100000 in
set_option maxHeartbeats 4000000 in
theorem iBegin (x : Value) (m : Md) (lp : Nat) (w : World) (hlp : lp < m.i.length) (h : IsM w x m) :
  Calls Tryz.prog 92 #[x, .int .i64 lp] w fun e w' => ∃ y, e = .returned y ∧ Below w.heap.size w w' ∧ StF (fun k => w.heap.size ≤ k ∧ k < w'.heap.size) w' y ⟨[intAt m.i lp, 0], 0, 0⟩ := by
 obtain ⟨i0, hi, hz0, hz1, hz2⟩ := info_parts info3
 obtain ⟨vi, vh, vs, rfl, ⟨ai, ci, rfl, hi1, hi2, hi3⟩, ⟨ah, ch, rfl, _⟩, ⟨ae, ce, rfl, _⟩⟩ := h
 obtain ⟨b, off, rfl, hb, hc⟩ := hi3.resolve_left (by intro e; rw [e] at hlp; simp at hlp)
 have f0 := hc lp hlp
 clear hc hi3
 generalize intAt m.i lp = y at f0 ⊢
 obtain ⟨W0, hW0⟩ : ∃ W0, (w.alloc (.cells #[.int .i64 m.n, .int .i64 m.s, .slice (some ⟨b, off, none⟩) m.i.length ci, .slice ah m.h.length ch, .slice ae m.e.length ce, .int .i64 m.z] 38)).alloc (.cells #[.slice none 0 0, .int .i64 0, .int .i64 0] 29) = W0 := ⟨_, rfl⟩
 have HP0 : Hid (Bk W0 w.heap.size 38 #[.int .i64 m.n, .int .i64 m.s, .slice (some ⟨b, off, none⟩) m.i.length ci, .slice ah m.h.length ch, .slice ae m.e.length ce, .int .i64 m.z]) := by rw [← hW0]; exact (Bk.new _ _ _).alloc _
 have HR0 : Hid (Bk W0 (w.heap.size + 1) 29 #[.slice none 0 0, .int .i64 0, .int .i64 0]) := by rw [← hW0]; exact Bk.newAt (by simp) _ _
 have HB0 : Hid (Below w.heap.size w W0) := by rw [← hW0]; exact ((Below.refl _ w).alloc (Nat.le_refl _) _).alloc (by simp) _
 have hsz : W0.heap.size = w.heap.size + 1 + 1 := by rw [← hW0]; simp
 have HSZ : Hid (W0.heap.size = w.heap.size + 1 + 1) := hsz
 clear hsz
 go_enter Tryz.func92, Tryz.ntmps92
 go_wp2_with (at_make; refine wpList_make_full W0 rfl _ _ 22 rfl W0.heap.size 3 i0 _ 1 Tryz.underlying22 hi hz0 hz1 .i64 .i64 2 2 2 rfl rfl rfl rfl (by rw [hz2]; omega) (by unfold maxLen; omega) (Nat.le_refl _) ?_; intro w1 hown hgrow; have hN1 : Bk w1 W0.heap.size 3 #[.int .i64 0, .int .i64 0] := made2 hown; have hB1 : Below W0.heap.size W0 w1 := (Below.refl _ _).grown hgrow (Nat.le_refl _) (fun k e => by cases e); have hR1 := HR0.out.below hB1; have hP1 := HP0.out.below hB1; have p2 := hP1.cell (i := 2) rfl; have n0 := hN1.cell (i := 0) rfl; have nf := hN1.free; have f1 := (hB1.cell (p := ⟨b, off + lp, none⟩) (by have := HB0.out.size; show b < W0.heap.size; omega)).trans ((HB0.out.cell (p := ⟨b, off + lp, none⟩) hb).trans f0); obtain ⟨X1, hX1⟩ : ∃ X1, w1.setCell ⟨W0.heap.size, 0, none⟩ (.int .i64 y) = X1 := ⟨_, rfl⟩; have hR2 : Bk X1 (w.heap.size + 1) 29 #[.slice none 0 0, .int .i64 0, .int .i64 0] := hX1 ▸ hR1.other 0 _ (by have := HSZ.out; omega); have hN2 : Bk X1 W0.heap.size 3 #[.int .i64 y, .int .i64 0] := hX1 ▸ hN1.put 0 _; have hB2 : Below w.heap.size w X1 := (HB0.out.trans (hB1.mono HB0.out.size)).trans (by rw [← hX1]; exact (Below.refl _ _).setCell (p := ⟨W0.heap.size, 0, none⟩) HB0.out.size _); have r0 := hR2.cell (i := 0) rfl; have r1 := hR2.cell (i := 1) rfl; have r2 := hR2.cell (i := 2) rfl; have rf := hR2.free; have HR2 : Hid (Bk X1 (w.heap.size + 1) 29 #[.slice none 0 0, .int .i64 0, .int .i64 0]) := hR2; have HN2 : Hid (Bk X1 W0.heap.size 3 #[.int .i64 y, .int .i64 0]) := hN2; have HB2 : Hid (Below w.heap.size w X1) := hB2; clear hR1 hP1 hN1 hB1 hR2 hN2 hB2 hown hgrow)
 clear r0 r1 r2 rf p2 n0 nf f1 f0
 obtain ⟨X5, hX5⟩ : ∃ X5, put3 X1 (w.heap.size + 1) (sl W0.heap.size 2) (.int .i64 0) (.int .i64 0) = X5 := ⟨_, rfl⟩
 have hR := HR2.out.put3 (sl W0.heap.size 2) (.int .i64 0) (.int .i64 0)
 have ht := put3_turns X1 (w.heap.size + 1) (sl W0.heap.size 2) (.int .i64 0) (.int .i64 0)
 rw [hX5] at hR ht
 unfold put3 at hX5
 rw [hX5]
 have t0 := hR.cell (i := 0) rfl
 have t1 := hR.cell (i := 1) rfl
 have t2 := hR.cell (i := 2) rfl
 have hs1 := HB0.out.size
 have hs2 := HB2.out.size
 have hs3 := HSZ.out
 have hs4 := ht.size
 have hs5 := HN2.out.lt
 refine bodyPost_ret (v := .agg #[sl W0.heap.size 2, .int .i64 0, .int .i64 0]) (by simp [results, Tryz.results92, go_sem, t0, t1, t2]) rfl ⟨_, rfl, HB2.out.trans (ht.to_below (fun k e => by omega) (by omega)), _, rfl, ?_⟩
 exact ((Bk.rowF (l := [y, 0]) (by unfold maxLen; simp) HN2.out).turns ht (fun k e => by omega)).mono (fun k e => by omega)
set_option maxRecDepth 100000 in
set_option maxHeartbeats 4000000 in
theorem iStateOf (x : Value) (m : Md) (lp : Int) (w : World) (hs : SmallM m) (h : IsM w x m) :
  Calls Tryz.prog 39 #[x, .int .i64 lp] w fun e w' => ∃ y, e = .returned (.tuple #[y, .bool (m.ok && isPart m lp)]) ∧ Below w.heap.size w w' ∧ StF (fun k => w.heap.size ≤ k ∧ k < w'.heap.size) w' y (stateOfR m lp) := by
 have HX : Hid (IsM w x m) := h
 have HS : Hid (SmallM m) := hs
 obtain ⟨vi, vh, vs, rfl, ⟨ai, ci, rfl, _⟩, ⟨ah, ch, rfl, _⟩, ⟨ae, ce, rfl, _⟩⟩ := h
 obtain ⟨W0, hW0⟩ : ∃ W0, (w.alloc (.cells #[.int .i64 m.n, .int .i64 m.s, .slice ai m.i.length ci, .slice ah m.h.length ch, .slice ae m.e.length ce, .int .i64 m.z] 38)).alloc (.cells #[.slice none 0 0, .int .i64 0, .int .i64 0] 29) = W0 := ⟨_, rfl⟩
 have HP0 : Hid (Bk W0 w.heap.size 38 #[.int .i64 m.n, .int .i64 m.s, .slice ai m.i.length ci, .slice ah m.h.length ch, .slice ae m.e.length ce, .int .i64 m.z]) := by rw [← hW0]; exact (Bk.new _ _ _).alloc _
 have HR0 : Hid (Bk W0 (w.heap.size + 1) 29 #[.slice none 0 0, .int .i64 0, .int .i64 0]) := by rw [← hW0]; exact Bk.newAt (by simp) _ _
 have HB0 : Hid (Below w.heap.size w W0) := by rw [← hW0]; exact ((Below.refl _ w).alloc (Nat.le_refl _) _).alloc (by simp) _
 have p0 := HP0.out.cell (i := 0) rfl
 have p1 := HP0.out.cell (i := 1) rfl
 have p2 := HP0.out.cell (i := 2) rfl
 have p3 := HP0.out.cell (i := 3) rfl
 have p4 := HP0.out.cell (i := 4) rfl
 have p5 := HP0.out.cell (i := 5) rfl
 clear hs
 go_enter Tryz.func39, Tryz.ntmps39
 go_wp2_with fail
 clear hW0 p0 p1 p2 p3 p4 p5
 refine (iModM _ m _ HS.out (HX.out.below HB0.out)).mono ?_
 rintro e w1 ⟨rfl, hb⟩
 have HB1 : Hid (Below w.heap.size w w1) := HB0.out.trans (hb.mono HB0.out.size)
 have HP1 : Hid (Bk w1 w.heap.size 38 #[.int .i64 m.n, .int .i64 m.s, .slice ai m.i.length ci, .slice ah m.h.length ch, .slice ae m.e.length ce, .int .i64 m.z]) := HP0.out.below hb
 have HR1 : Hid (Bk w1 (w.heap.size + 1) 29 #[.slice none 0 0, .int .i64 0, .int .i64 0]) := HR0.out.below hb
 have HX1 : Hid (IsM w1 (.agg #[.int .i64 m.n, .int .i64 m.s, .slice ai m.i.length ci, .slice ah m.h.length ch, .slice ae m.e.length ce, .int .i64 m.z]) m) := HX.out.below HB1.out
 have r0 := HR1.out.cell (i := 0) rfl
 have r1 := HR1.out.cell (i := 1) rfl
 have r2 := HR1.out.cell (i := 2) rfl
 have rf := HR1.out.free
 clear hb HB0 HP0 HR0 HX
 cases hok : m.ok with
 | false =>
  have HOK : Hid (m.ok = false) := hok
  clear hok
  go_wp2
  clear r0 r1 r2 rf
  obtain ⟨X5, hX5⟩ : ∃ X5, put3 w1 (w.heap.size + 1) (.slice none 0 0) (.int .i64 0) (.int .i64 0) = X5 := ⟨_, rfl⟩
  have hR := HR1.out.put3 (.slice none 0 0) (.int .i64 0) (.int .i64 0)
  have ht := put3_turns w1 (w.heap.size + 1) (.slice none 0 0) (.int .i64 0) (.int .i64 0)
  rw [hX5] at hR ht
  unfold put3 at hX5
  rw [hX5]
  have t0 := hR.cell (i := 0) rfl
  have t1 := hR.cell (i := 1) rfl
  have t2 := hR.cell (i := 2) rfl
  have hno : (m.ok && isPart m lp) = false := by rw [HOK.out]; rfl
  refine bodyPost_ret (v := .tuple #[.agg #[.slice none 0 0, .int .i64 0, .int .i64 0], .bool false]) (by simp [results, Tryz.results39, go_sem, t0, t1, t2]) rfl ⟨_, by rw [hno], HB1.out.trans (ht.to_below (fun k e => by omega) HB1.out.size), ?_⟩
  rw [show stateOfR m lp = zeroS from by simp [stateOfR, hno]]
  exact ⟨_, rfl, rfl, none, 0, rfl, Nat.le_refl _, by unfold maxLen; omega, .inl rfl⟩
 | true =>
  have HOK : Hid (m.ok = true) := hok
  clear hok
  have p0 := HP1.out.cell (i := 0) rfl
  have p1 := HP1.out.cell (i := 1) rfl
  have p2 := HP1.out.cell (i := 2) rfl
  have p3 := HP1.out.cell (i := 3) rfl
  have p4 := HP1.out.cell (i := 4) rfl
  have p5 := HP1.out.cell (i := 5) rfl
  go_wp2_with fail
  clear p0 p1 p2 p3 p4 p5
  refine (place_any _ _ _).mono ?_
  rintro e w2 ⟨rfl, hw⟩
  have hw' := hw.symm
  clear hw
  subst hw'
  by_cases c0 : 0 ≤ lp ∧ lp < m.n
  case neg =>
   have HN : Hid ((m.ok && isPart m lp) = false) := (by rw [HOK.out]; simp [isPart]; omega : (m.ok && isPart m lp) = false)
   rw [show (decide (0 ≤ lp) && decide (lp < m.n)) = false from by simp; omega]
   go_wp2
   clear r0 r1 r2 rf
   obtain ⟨X5, hX5⟩ : ∃ X5, put3 w1 (w.heap.size + 1) (.slice none 0 0) (.int .i64 0) (.int .i64 0) = X5 := ⟨_, rfl⟩
   have hR := HR1.out.put3 (.slice none 0 0) (.int .i64 0) (.int .i64 0)
   have ht := put3_turns w1 (w.heap.size + 1) (.slice none 0 0) (.int .i64 0) (.int .i64 0)
   rw [hX5] at hR ht
   unfold put3 at hX5
   rw [hX5]
   have t0 := hR.cell (i := 0) rfl
   have t1 := hR.cell (i := 1) rfl
   have t2 := hR.cell (i := 2) rfl
   have hno : (m.ok && isPart m lp) = false := HN.out
   refine bodyPost_ret (v := .tuple #[.agg #[.slice none 0 0, .int .i64 0, .int .i64 0], .bool false]) (by simp [results, Tryz.results39, go_sem, t0, t1, t2]) rfl ⟨_, by rw [hno], HB1.out.trans (ht.to_below (fun k e => by omega) HB1.out.size), ?_⟩
   rw [show stateOfR m lp = zeroS from by simp [stateOfR, hno]]
   exact ⟨_, rfl, rfl, none, 0, rfl, Nat.le_refl _, by unfold maxLen; omega, .inl rfl⟩
  case pos =>
   rw [show (decide (0 ≤ lp) && decide (lp < m.n)) = true from by simp; omega]
   have p0 := HP1.out.cell (i := 0) rfl
   have p1 := HP1.out.cell (i := 1) rfl
   have p2 := HP1.out.cell (i := 2) rfl
   have p3 := HP1.out.cell (i := 3) rfl
   have p4 := HP1.out.cell (i := 4) rfl
   have p5 := HP1.out.cell (i := 5) rfl
   go_wp2_with fail
   clear p0 p1 p2 p3 p4 p5
   clear r0 r1 r2 rf
   obtain ⟨k, rfl⟩ : ∃ k : Nat, lp = (k : Int) := ⟨lp.toNat, by omega⟩
   have hk : k < m.i.length := by have := ok_init HOK.out; omega
   refine (iBegin _ m k _ hk (HX1.out)).mono ?_
   rintro e w3 ⟨y, rfl, hb, hy⟩
   have hR2 := HR1.out.below hb
   have r0 := hR2.cell (i := 0) rfl
   have r1 := hR2.cell (i := 1) rfl
   have r2 := hR2.cell (i := 2) rfl
   have rf := hR2.free
   have HB3 : Hid (Below w.heap.size w w3) := HB1.out.trans (hb.mono HB1.out.size)
   have HR3 : Hid (Bk w3 (w.heap.size + 1) 29 #[.slice none 0 0, .int .i64 0, .int .i64 0]) := hR2
   have HY : Hid (StF (fun k => w1.heap.size ≤ k ∧ k < w3.heap.size) w3 y ⟨[intAt m.i k, 0], 0, 0⟩) := hy
   have hlt := HR1.out.lt
   obtain ⟨ay, cy, rfl⟩ := hy.form
   clear hb hR2 hy
   go_wp2
   clear r0 r1 r2 rf
   obtain ⟨X5, hX5⟩ : ∃ X5, put3 w3 (w.heap.size + 1) (.slice ay 2 cy) (.int .i64 0) (.int .i64 0) = X5 := ⟨_, rfl⟩
   have hR := HR3.out.put3 (.slice ay 2 cy) (.int .i64 0) (.int .i64 0)
   have ht := put3_turns w3 (w.heap.size + 1) (.slice ay 2 cy) (.int .i64 0) (.int .i64 0)
   rw [hX5] at hR ht
   unfold put3 at hX5
   rw [hX5]
   have t0 := hR.cell (i := 0) rfl
   have t1 := hR.cell (i := 1) rfl
   have t2 := hR.cell (i := 2) rfl
   have hyes : (m.ok && isPart m k) = true := by simp [HOK.out, isPart]; omega
   have hs1 := HB1.out.size
   have hs2 := ht.size
   have hs3 := HB3.out.size
   refine bodyPost_ret (v := .tuple #[.agg #[.slice ay 2 cy, .int .i64 0, .int .i64 0], .bool true]) (by simp [results, Tryz.results39, go_sem, t0, t1, t2]) rfl ⟨_, by rw [hyes], HB3.out.trans (ht.to_below (fun k e => by omega) HB3.out.size), ?_⟩
   rw [show stateOfR m k = ⟨[intAt m.i k, 0], 0, 0⟩ from by rw [stateOfR, hyes]; simp [firstS]]
   exact (HY.out.turns ht (fun j e => by omega)).mono (fun j e => by omega)
end Go.Proofs.YtnccenbkpocjgaaGreat

/- The specification's l4new. -/
namespace Go.Proofs.YtnccenbkpocjgaaGreat
open Go.RowKit
def insL (l : List Ev) (e : Ev) : List Ev := l.take (insP l e) ++ e :: l.drop (insP l e)
def stN (lp : Nat) (l : List Ev) (e : Ev) : List Ev := if e.d = (lp : Int) then insL l e else l
def newL (lp : Nat) (es : List Ev) : List Ev := es.foldl (stN lp) []
theorem stN_len (lp : Nat) (l : List Ev) (e : Ev) : (stN lp l e).length ≤ l.length + 1 := by
 unfold stN insL
 have := (insP_at l e).1
 split
 ·rw [List.length_append, List.length_cons, List.length_take, List.length_drop]; omega
 ·omega
theorem foldN_len (lp : Nat) : ∀ (es l : List Ev), (es.foldl (stN lp) l).length ≤ l.length + es.length
 | [], l => by simp
 | e :: es, l => by
  have h1 := foldN_len lp es (stN lp l e)
  have h2 := stN_len lp l e
  simp only [List.foldl_cons, List.length_cons]
  omega
theorem newL_len (lp : Nat) (es : List Ev) : (newL lp es).length ≤ es.length := by
 have := foldN_len lp es []
 simpa [newL] using this
theorem newL_snoc (lp : Nat) (es : List Ev) {k : Nat} (h : k < es.length) : newL lp (es.take (k + 1)) = stN lp (newL lp (es.take k)) (evAt es k) := by
 unfold newL
 rw [List.take_succ_eq_append_getElem h, List.foldl_append]
 simp [evAt, h]
def newP (m : Md) (lp : Nat) : Pa := ⟨(lp : Int), firstS m (lp : Int), [], newL lp m.e, []⟩
set_option maxRecDepth 100000 in
set_option maxHeartbeats 16000000 in
theorem l4new_any (x : Value) (m : Md) (lp : Nat) (w : World) (hlp : lp < m.i.length) (he9 : m.e.length ≤ 100000) (h : IsM w x m) :
  Calls Tryz.prog 36 #[x, .int .i64 (lp : Int)] w fun r w' => (∃ y, r = .returned y ∧ IsPart w' y (newP m lp)) ∧ Below w.heap.size w w' := by
 have HM : Hid (IsM w x m) := h
 obtain ⟨vi, vh, vs, rfl, ⟨ai, ci, rfl, _⟩, ⟨ah, ch, rfl, _⟩, ⟨ae, ce, rfl, _, _, he3⟩⟩ := h
 have HE : Hid (m.e = [] ∨ ∃ b off, ae = some ⟨b, off, none⟩ ∧ EvsAt w b off m.e) := he3
 clear he3
 obtain ⟨W0, hW0⟩ : ∃ W0, (w.alloc (.cells #[.int .i64 m.n, .int .i64 m.s, .slice ai m.i.length ci, .slice ah m.h.length ch, .slice ae m.e.length ce, .int .i64 m.z] 38)).alloc (.cells #[.int .i64 0, .slice none 0 0, .int .i64 0, .int .i64 0, .slice none 0 0, .slice none 0 0, .slice none 0 0] 33) = W0 := ⟨_, rfl⟩
 have HB0 : Hid (Below w.heap.size w W0) := by rw [← hW0]; exact ((Below.refl _ w).alloc (Nat.le_refl _) _).alloc (by simp) _
 have BX : Hid (Bk W0 w.heap.size 38 #[.int .i64 m.n, .int .i64 m.s, .slice ai m.i.length ci, .slice ah m.h.length ch, .slice ae m.e.length ce, .int .i64 m.z]) := by rw [← hW0]; exact (Bk.new w _ _).alloc _
 have BZ : Hid (Bk W0 (w.heap.size + 1) 33 #[.int .i64 0, .slice none 0 0, .int .i64 0, .int .i64 0, .slice none 0 0, .slice none 0 0, .slice none 0 0]) := by rw [← hW0]; exact Bk.newAt (by simp) _ _
 have hz0 : W0.heap.size = w.heap.size + 1 + 1 := by rw [← hW0]; simp
 have x0 := BX.out.cell (i := 0) rfl
 have x1 := BX.out.cell (i := 1) rfl
 have x2 := BX.out.cell (i := 2) rfl
 have x3 := BX.out.cell (i := 3) rfl
 have x4 := BX.out.cell (i := 4) rfl
 have x5 := BX.out.cell (i := 5) rfl
 go_enter Tryz.func36, Tryz.ntmps36
 go_wp2_with fail
 clear hW0 x0 x1 x2 x3 x4 x5
 refine (sBegin _ m lp _ hlp (HM.out.below HB0.out)).mono ?_
 rintro r w1 ⟨y, rfl, hb1, vr, rfl, hrow⟩
 have HRO : Hid (OwnD w1 (fun q => W0.heap.size ≤ q ∧ q < w1.heap.size) vr (intsD [intAt m.i lp, 0])) := RowF.own hrow
 have HR1 : Hid (IsD w1 vr (intsD [intAt m.i lp, 0])) := HRO.out.isD
 obtain ⟨ar, cr, hvr⟩ : ∃ ar cr, vr = .slice ar 2 cr := by
  obtain ⟨a', c', e', _⟩ := IsD.len HR1.out
  exact ⟨a', c', e'⟩
 subst hvr
 have HB1 : Hid (Below w.heap.size w w1) := HB0.out.trans (hb1.mono HB0.out.size)
 have X1 : Hid (Bk w1 w.heap.size 38 #[.int .i64 m.n, .int .i64 m.s, .slice ai m.i.length ci, .slice ah m.h.length ch, .slice ae m.e.length ce, .int .i64 m.z]) := BX.out.below hb1
 have Z1 : Hid (Bk w1 (w.heap.size + 1) 33 #[.int .i64 0, .slice none 0 0, .int .i64 0, .int .i64 0, .slice none 0 0, .slice none 0 0, .slice none 0 0]) := BZ.out.below hb1
 have hs1 : W0.heap.size ≤ w1.heap.size := hb1.size
 clear hb1 hrow BX BZ
 obtain ⟨W2, hW2⟩ : ∃ V, w1.alloc (.cells #[.int .i64 (lp : Int), .slice ar 2 cr, .int .i64 0, .int .i64 0, .slice none 0 0, .slice none 0 0, .slice none 0 0] 33) = V := ⟨_, rfl⟩
 have hb2 : Below w1.heap.size w1 W2 := hW2 ▸ (Below.refl _ w1).alloc (Nat.le_refl _) _
 have HB12 : Hid (Below w1.heap.size w1 W2) := hb2
 have Q2 : Hid (Bk W2 w1.heap.size 33 #[.int .i64 (lp : Int), .slice ar 2 cr, .int .i64 0, .int .i64 0, .slice none 0 0, .slice none 0 0, .slice none 0 0]) := hW2 ▸ Bk.new w1 _ _
 have X2 : Hid (Bk W2 w.heap.size 38 #[.int .i64 m.n, .int .i64 m.s, .slice ai m.i.length ci, .slice ah m.h.length ch, .slice ae m.e.length ce, .int .i64 m.z]) := X1.out.below hb2
 have Z2 : Hid (Bk W2 (w.heap.size + 1) 33 #[.int .i64 0, .slice none 0 0, .int .i64 0, .int .i64 0, .slice none 0 0, .slice none 0 0, .slice none 0 0]) := Z1.out.below hb2
 have HB2 : Hid (Below w.heap.size w W2) := HB1.out.trans (hb2.mono HB1.out.size)
 have hs2 : W2.heap.size = w1.heap.size + 1 := by rw [← hW2]; simp
 have HW2 : Hid (w1.alloc (.cells #[.int .i64 (lp : Int), .slice ar 2 cr, .int .i64 0, .int .i64 0, .slice none 0 0, .slice none 0 0, .slice none 0 0] 33) = W2) := hW2
 clear hb2 X1 Z1 hW2
 go_wp2_with fail
 rw [HW2.out]
 clear HW2
 go_loopw [6] (fun i wr => ∃ (k : Nat) (at9 : Option Addr) (ct9 : Nat), k ≤ m.e.length ∧ i = .int .i64 k ∧ Turns (fun q => q = w1.heap.size) W2 wr ∧ Bk wr w1.heap.size 33 #[.int .i64 (lp : Int), .slice ar 2 cr, .int .i64 0, .int .i64 0, .slice none 0 0, .slice at9 (newL lp (m.e.take k)).length ct9, .slice none 0 0] ∧ OwnR W2.heap.size wr (.slice at9 (newL lp (m.e.take k)).length ct9) (newL lp (m.e.take k))) (fun i _ => m.e.length - (intOf i).toNat)
 case atStart => exact ⟨0, none, 0, Nat.zero_le _, rfl, Turns.refl _ _, Q2.out, World.ownsRow_nil W2 _ _ 7⟩
 case round =>
  obtain ⟨k, at9, ct9, hk, rfl, hT, hQ, hO⟩ := hrel
  have hsr := hT.size
  have hBr : Below w.heap.size w wr := HB2.out.trans (hT.to_below (fun q hq => by omega) HB2.out.size)
  have HBr : Hid (Below w.heap.size w wr) := hBr
  have HT : Hid (Turns (fun q => q = w1.heap.size) W2 wr) := hT
  have hXr : Bk wr w.heap.size 38 #[.int .i64 m.n, .int .i64 m.s, .slice ai m.i.length ci, .slice ah m.h.length ch, .slice ae m.e.length ce, .int .i64 m.z] := X2.out.turns hT (by omega)
  have hll := newL_len lp (m.e.take k)
  rw [List.length_take] at hll
  by_cases hlt : k < m.e.length
  ·have hsn := newL_snoc lp m.e hlt
   obtain ⟨L, hL⟩ : ∃ L, newL lp (m.e.take k) = L := ⟨_, rfl⟩
   rw [hL] at hsn hQ hO hll
   clear hL
   have HQ : Hid (Bk wr w1.heap.size 33 #[.int .i64 (lp : Int), .slice ar 2 cr, .int .i64 0, .int .i64 0, .slice none 0 0, .slice at9 L.length ct9, .slice none 0 0]) := hQ
   have HO : Hid (OwnR W2.heap.size wr (.slice at9 L.length ct9) L) := hO
   have HLE : Hid (IsEvs wr (.slice at9 L.length ct9) L) := (RowF.of_owns (cellsL_length _) hO).own.isD.isEvs
   obtain ⟨b, off, rfl, hev⟩ := HE.out.resolve_left (by intro e; rw [e] at hlt; simp at hlt)
   have hbr : b < wr.heap.size := Nat.lt_of_lt_of_le hev.1 hBr.size
   obtain ⟨f0, f1, f2, f3, f4, f5, f6⟩ := (hev.2 k hlt).below hBr hev.1
   have HXr : Hid (Bk wr w.heap.size 38 #[.int .i64 m.n, .int .i64 m.s, .slice ai m.i.length ci, .slice ah m.h.length ch, .slice (some ⟨b, off, none⟩) m.e.length ce, .int .i64 m.z]) := hXr
   have hkn : (k : Int) < (m.e.length : Int) := by omega
   have y4 := hXr.cell (i := 4) rfl
   clear hT hQ hO hBr hXr
   obtain ⟨e, hee⟩ : ∃ e, evAt m.e k = e := ⟨_, rfl⟩
   rw [hee] at hsn f0 f1 f2 f3 f4 f5 f6
   clear hee
   by_cases hd : e.d = (lp : Int)
   ·have hdb : (e.d == (lp : Int)) = true := by simpa using hd
    have HSN : Hid (newL lp (m.e.take (k + 1)) = insL L e) := by (show _ = _; rw [hsn]; unfold stN; rw [if_pos hd])
    clear hsn hd
    go_upto_region 6 with fail
    clear y4 hdb
    refine wp_region_z 9 (fun W => W.cell? ⟨w1.heap.size, 5, none⟩ = some (.slice at9 L.length ct9) ∧ W.cell? ⟨w.heap.size, 4, none⟩ = some (.slice (some ⟨b, off, none⟩) m.e.length ce) ∧ W.cell? ⟨b, off + k * 7, none⟩ = some (.int .i64 e.t) ∧ W.cell? ⟨b, off + k * 7 + 1, none⟩ = some (.int .i64 e.s) ∧ W.cell? ⟨b, off + k * 7 + 2, none⟩ = some (.int .i64 e.q) ∧ W.cell? ⟨b, off + k * 7 + 3, none⟩ = some (.int .i64 e.d) ∧ W.cell? ⟨b, off + k * 7 + 4, none⟩ = some (.int .i64 e.k) ∧ W.cell? ⟨b, off + k * 7 + 5, none⟩ = some (.int .i64 e.v) ∧ W.cell? ⟨b, off + k * 7 + 6, none⟩ = some (.int .i64 e.g)) (by kernel_rfl) ⟨HQ.out.drew.cell rfl, HXr.out.drew.cell rfl, f0, f1, f2, f3, f4, f5, f6⟩ (fun hHeld => ?_)
    refine wpAnyZ_take (i := 0) (oi := { dst := some 27, op := Op.fieldAddr 33 (Operand.tmp 5) 3, type := 0, pos := _, after := _, guard := none }) (v := .pointer (some ⟨w1.heap.size, 5, none⟩)) 0 [] rfl (by kernel_rfl) (by kernel_rfl) (by kernel_rfl) (by kernel_rfl) (by kernel_rfl) (fun _ _ _ h => h) (Or.inl ⟨by rfl, ?_⟩) (by assumption) ?_
    ·intro wX hSw
     try dsimp only at hSw
     go_simp
     try exact IntWalk.i64_in _ (by omega)
    try simp only [Act.put, List.setIfInBounds_toArray, List.set_cons_zero, List.set_cons_succ]
    refine wpAnyZ_take (i := 1) (oi := { dst := some 28, op := Op.load 31 (Operand.tmp 27), type := 31, pos := _, after := _, guard := none }) (v := .slice at9 L.length ct9) 1 [] rfl (by kernel_rfl) (by kernel_rfl) (by kernel_rfl) (by kernel_rfl) (by kernel_rfl) (fun _ _ _ h => h) (Or.inl ⟨by rfl, ?_⟩) (by assumption) ?_
    ·intro wX hSw
     try dsimp only at hSw
     go_simp
     try exact IntWalk.i64_in _ (by omega)
    try simp only [Act.put, List.setIfInBounds_toArray, List.set_cons_zero, List.set_cons_succ]
    refine wpAnyZ_take (i := 2) (oi := { dst := some 29, op := Op.fieldAddr 38 (Operand.tmp 2) 4, type := 0, pos := _, after := _, guard := none }) (v := .pointer (some ⟨w.heap.size, 4, none⟩)) 2 [] rfl (by kernel_rfl) (by kernel_rfl) (by kernel_rfl) (by kernel_rfl) (by kernel_rfl) (fun _ _ _ h => h) (Or.inl ⟨by rfl, ?_⟩) (by assumption) ?_
    ·intro wX hSw
     try dsimp only at hSw
     go_simp
     try exact IntWalk.i64_in _ (by omega)
    try simp only [Act.put, List.setIfInBounds_toArray, List.set_cons_zero, List.set_cons_succ]
    refine wpAnyZ_take (i := 3) (oi := { dst := some 30, op := Op.load 31 (Operand.tmp 29), type := 31, pos := _, after := _, guard := none }) (v := .slice (some ⟨b, off, none⟩) m.e.length ce) 3 [] rfl (by kernel_rfl) (by kernel_rfl) (by kernel_rfl) (by kernel_rfl) (by kernel_rfl) (fun _ _ _ h => h) (Or.inl ⟨by rfl, ?_⟩) (by assumption) ?_
    ·intro wX hSw
     try dsimp only at hSw
     go_simp
     try exact IntWalk.i64_in _ (by omega)
    try simp only [Act.put, List.setIfInBounds_toArray, List.set_cons_zero, List.set_cons_succ]
    refine wpAnyZ_take (i := 4) (oi := { dst := some 31, op := Op.move (Operand.tmp 6), type := 3, pos := _, after := _, guard := none }) (v := .int .i64 (k : Int)) 4 [] rfl (by kernel_rfl) (by kernel_rfl) (by kernel_rfl) (by kernel_rfl) (by kernel_rfl) (fun _ _ _ h => h) (Or.inl ⟨by rfl, ?_⟩) (by assumption) ?_
    ·intro wX hSw
     try dsimp only at hSw
     go_simp
     try exact IntWalk.i64_in _ (by omega)
    try simp only [Act.put, List.setIfInBounds_toArray, List.set_cons_zero, List.set_cons_succ]
    refine wpAnyZ_take (i := 5) (oi := { dst := some 32, op := Op.indexAddr 31 (Operand.tmp 30) (Operand.tmp 31), type := 0, pos := _, after := _, guard := none }) (v := .pointer (some ⟨b, off + k * 7, none⟩)) 5 [] rfl (by kernel_rfl) (by kernel_rfl) (by kernel_rfl) (by kernel_rfl) (by kernel_rfl) (fun _ _ _ h => h) (Or.inl ⟨by rfl, ?_⟩) (by assumption) ?_
    ·intro wX hSw
     try dsimp only at hSw
     go_simp
     try exact IntWalk.i64_in _ (by omega)
    try simp only [Act.put, List.setIfInBounds_toArray, List.set_cons_zero, List.set_cons_succ]
    refine wpAnyZ_take (i := 6) (oi := { dst := some 33, op := Op.load 55 (Operand.tmp 32), type := 55, pos := _, after := _, guard := none }) (v := .agg #[.int .i64 e.t, .int .i64 e.s, .int .i64 e.q, .int .i64 e.d, .int .i64 e.k, .int .i64 e.v, .int .i64 e.g]) 6 [] rfl (by kernel_rfl) (by kernel_rfl) (by kernel_rfl) (by kernel_rfl) (by kernel_rfl) (fun _ _ _ h => h) (Or.inl ⟨by rfl, ?_⟩) (by assumption) ?_
    ·intro wX hSw
     try dsimp only at hSw
     go_simp
     try exact IntWalk.i64_in _ (by omega)
    try simp only [Act.put, List.setIfInBounds_toArray, List.set_cons_zero, List.set_cons_succ]
    refine wpAnyZ_ready (rs := [7]) (by kernel_rfl) (by simp) ?_
    refine AllReadyZ.cons (o := { dst := some 34, op := Op.call { callee := Callee.value (Operand.func 89), args := #[Operand.tmp 28, Operand.tmp 33], argTypes := #[31, 55] }, type := 31, pos := _, after := _, guard := none }) rfl (fun K hK => ?_) AllReadyZ.nil
    go_simp
    refine (insert_any _ L e wr.drew (by omega) (HLE.out.below (Below.refl _ wr).drew)).mono ?_
    rintro r w5 ⟨ip, yi, rfl, hia, ho, hb⟩
    have HB5 : Hid (Below wr.heap.size wr w5) := (Below.refl _ wr).drew.trans hb
    have HAT : Hid (ip = insP L e) := hia.is
    have Q5 : Hid (Bk w5 w1.heap.size 33 #[.int .i64 (lp : Int), .slice ar 2 cr, .int .i64 0, .int .i64 0, .slice none 0 0, .slice at9 L.length ct9, .slice none 0 0]) := HQ.out.below HB5.out
    have X5 : Hid (Bk w5 w.heap.size 38 #[.int .i64 m.n, .int .i64 m.s, .slice ai m.i.length ci, .slice ah m.h.length ch, .slice (some ⟨b, off, none⟩) m.e.length ce, .int .i64 m.z]) := HXr.out.below HB5.out
    have HO5 : Hid (OwnR wr.heap.size w5 yi (L.take ip ++ e :: L.drop ip)) := ho
    obtain ⟨an, cn, rfl⟩ := owns_slice ho
    have g0 := (HB5.out.cell (p := ⟨b, off + k * 7, none⟩) hbr).trans f0
    have g1 := (HB5.out.cell (p := ⟨b, off + k * 7 + 1, none⟩) hbr).trans f1
    have g2 := (HB5.out.cell (p := ⟨b, off + k * 7 + 2, none⟩) hbr).trans f2
    have g3 := (HB5.out.cell (p := ⟨b, off + k * 7 + 3, none⟩) hbr).trans f3
    have g4 := (HB5.out.cell (p := ⟨b, off + k * 7 + 4, none⟩) hbr).trans f4
    have g5 := (HB5.out.cell (p := ⟨b, off + k * 7 + 5, none⟩) hbr).trans f5
    have g6 := (HB5.out.cell (p := ⟨b, off + k * 7 + 6, none⟩) hbr).trans f6
    clear hia ho hb
    obtain ⟨ni, hni⟩ : ∃ ni, (L.take ip ++ e :: L.drop ip).length = ni := ⟨_, rfl⟩
    have HNI : Hid ((L.take ip ++ e :: L.drop ip).length = ni) := hni
    rw [hni]
    clear hni
    try go_simp
    refine hK.out _ _ ⟨Q5.out.cell rfl, X5.out.cell rfl, g0, g1, g2, g3, g4, g5, g6⟩ (fun hHeld => ?_)
    clear hK K
    try simp only [Act.put, List.setIfInBounds_toArray, List.set_cons_zero, List.set_cons_succ]
    refine wpAnyZ_take (i := 8) (oi := { dst := some 35, op := Op.fieldAddr 33 (Operand.tmp 5) 3, type := 0, pos := _, after := _, guard := none }) (v := .pointer (some ⟨w1.heap.size, 5, none⟩)) 8 [] rfl (by kernel_rfl) (by kernel_rfl) (by kernel_rfl) (by kernel_rfl) (by kernel_rfl) (fun _ _ _ h => h) (Or.inl ⟨by rfl, ?_⟩) (by assumption) ?_
    ·intro wX hSw
     try dsimp only at hSw
     go_simp
     try exact IntWalk.i64_in _ (by omega)
    try simp only [Act.put, List.setIfInBounds_toArray, List.set_cons_zero, List.set_cons_succ]
    refine wpAnyZ_ready (rs := [9]) (by kernel_rfl) (by simp) ?_
    refine AllReadyZ.last (o := { dst := none, op := Op.store 31 (Operand.tmp 35) (Operand.tmp 34), type := 0, pos := _, after := _, guard := none }) rfl (fun K hK => ?_)
    have q5 := Q5.out.cell (i := 5) rfl
    have qf := Q5.out.free
    obtain ⟨X6, hX6⟩ : ∃ X6, w5.setCell ⟨w1.heap.size, 5, none⟩ (.slice an ni cn) = X6 := ⟨_, rfl⟩
    have hP := Q5.out.put 5 (.slice an ni cn)
    have ht := put1_turns w5 w1.heap.size 5 (.slice an ni cn)
    rw [hX6] at hP ht
    have HX6 : Hid _ := hX6
    have Q6 : Hid (Bk X6 w1.heap.size 33 #[.int .i64 (lp : Int), .slice ar 2 cr, .int .i64 0, .int .i64 0, .slice none 0 0, .slice an ni cn, .slice none 0 0]) := hP
    have HT6 : Hid (Turns (fun q => q = w1.heap.size) w5 X6) := ht
    clear hX6 hP ht
    go_simp
    clear q5 qf
    rw [HX6.out]
    refine hK.out _ _ ?_
    clear hK K
    try simp only [Act.put, List.setIfInBounds_toArray, List.set_cons_zero, List.set_cons_succ]
    refine wpAnyZ_done (by kernel_rfl) ?_ _
    clear hHeld
    have hz5 := HB5.out.size
    have hz6 := HT6.out.size
    have HT9 : Hid (Turns (fun q => q = w1.heap.size) W2 X6) := (HT.out.trans (Turns.of_below HB5.out)).trans HT6.out
    have HO6 : Hid (OwnR W2.heap.size X6 (.slice an ni cn) (L.take ip ++ e :: L.drop ip)) := by
     have h9 := HO5.out
     rw [HNI.out] at h9
     exact OwnR.mono (owns_turns h9 HT6.out (fun q hq e1 => by have := row_ge h9 hq; omega)) (by omega)
    have HSN2 : Hid (newL lp (m.e.take (k + 1)) = L.take ip ++ e :: L.drop ip) := by (show _ = _; rw [HSN.out, HAT.out]; rfl)
    go_wp2
    go_roundw
    case rel => exact ⟨k + 1, an, cn, by omega, by go_num, HT9.out, by rw [HSN2.out, HNI.out]; exact Q6.out, by rw [HSN2.out, HNI.out]; exact HO6.out⟩
    case measure => simp [intOf]; omega
   ·have hdb : (e.d == (lp : Int)) = false := by simpa using hd
    have HSN : Hid (newL lp (m.e.take (k + 1)) = L) := by (show _ = _; rw [hsn]; unfold stN; rw [if_neg hd])
    clear hsn hd
    go_wp2
    go_roundw
    case rel => exact ⟨k + 1, at9, ct9, by omega, by go_num, HT.out, by rw [HSN.out]; exact HQ.out, by rw [HSN.out]; exact HO.out⟩
    case measure => simp [intOf]; omega
  ·obtain rfl : m.e.length = k := by omega
   rw [List.take_length] at hQ hO hll
   have y4 := hXr.cell (i := 4) rfl
   have Q4 : Hid (Bk wr w1.heap.size 33 #[.int .i64 (lp : Int), .slice ar 2 cr, .int .i64 0, .int .i64 0, .slice none 0 0, .slice at9 (newL lp m.e).length ct9, .slice none 0 0]) := hQ
   have Z4 : Hid (Bk wr (w.heap.size + 1) 33 #[.int .i64 0, .slice none 0 0, .int .i64 0, .int .i64 0, .slice none 0 0, .slice none 0 0, .slice none 0 0]) := Z2.out.turns hT (by omega)
   have HO : Hid (OwnR W2.heap.size wr (.slice at9 (newL lp m.e).length ct9) (newL lp m.e)) := hO
   have HR4 : Hid (OwnD wr (fun q => W0.heap.size ≤ q ∧ q < w1.heap.size) (.slice ar 2 cr) (intsD [intAt m.i lp, 0])) := (HRO.out.turns (S := fun q => q = w1.heap.size) (Turns.of_below HB12.out) (fun q hq e1 => by omega)).turns hT (fun q hq e1 => by omega)
   clear hT hQ hO hBr
   have q0 := Q4.out.cell (i := 0) rfl
   have q1 := Q4.out.cell (i := 1) rfl
   have q2 := Q4.out.cell (i := 2) rfl
   have q3 := Q4.out.cell (i := 3) rfl
   have q4 := Q4.out.cell (i := 4) rfl
   have q5 := Q4.out.cell (i := 5) rfl
   have q6 := Q4.out.cell (i := 6) rfl
   have z0 := Z4.out.cell (i := 0) rfl
   have z1 := Z4.out.cell (i := 1) rfl
   have z2 := Z4.out.cell (i := 2) rfl
   have z3 := Z4.out.cell (i := 3) rfl
   have z4 := Z4.out.cell (i := 4) rfl
   have z5 := Z4.out.cell (i := 5) rfl
   have z6 := Z4.out.cell (i := 6) rfl
   have zf := Z4.out.free
   obtain ⟨X5, hX5⟩ : ∃ X5, put7s wr (w.heap.size + 1) (.int .i64 (lp : Int)) (.slice ar 2 cr) (.int .i64 0) (.int .i64 0) (.slice none 0 0) (.slice at9 (newL lp m.e).length ct9) (.slice none 0 0) = X5 := ⟨_, rfl⟩
   have hP := Z4.out.put7s (.int .i64 (lp : Int)) (.slice ar 2 cr) (.int .i64 0) (.int .i64 0) (.slice none 0 0) (.slice at9 (newL lp m.e).length ct9) (.slice none 0 0)
   have ht := put7s_turns wr (w.heap.size + 1) (.int .i64 (lp : Int)) (.slice ar 2 cr) (.int .i64 0) (.int .i64 0) (.slice none 0 0) (.slice at9 (newL lp m.e).length ct9) (.slice none 0 0)
   rw [hX5] at hP ht
   unfold put7s at hX5
   have HX5 : Hid _ := hX5
   have HP5 : Hid (Bk X5 (w.heap.size + 1) 33 #[.int .i64 (lp : Int), .slice ar 2 cr, .int .i64 0, .int .i64 0, .slice none 0 0, .slice at9 (newL lp m.e).length ct9, .slice none 0 0]) := hP
   have HT5 : Hid (Turns (fun q => q = (w.heap.size + 1)) wr X5) := ht
   clear hX5 hP ht
   go_wp2
   try rw [HX5.out]
   have t0 := HP5.out.cell (i := 0) rfl
   have t1 := HP5.out.cell (i := 1) rfl
   have t2 := HP5.out.cell (i := 2) rfl
   have t3 := HP5.out.cell (i := 3) rfl
   have t4 := HP5.out.cell (i := 4) rfl
   have t5 := HP5.out.cell (i := 5) rfl
   have t6 := HP5.out.cell (i := 6) rfl
   refine bodyPost_ret (v := .agg #[.int .i64 (lp : Int), .slice ar 2 cr, .int .i64 0, .int .i64 0, .slice none 0 0, .slice at9 (newL lp m.e).length ct9, .slice none 0 0]) (by simp [results, Tryz.results36, go_sem, t0, t1, t2, t3, t4, t5, t6]) rfl ?_
   have hbx : Below w.heap.size w X5 := HBr.out.trans (HT5.out.to_below (fun q hq => by omega) HBr.out.size)
   have ho9 : OwnR W2.heap.size X5 (.slice at9 (newL lp m.e).length ct9) (newL lp m.e) := owns_turns HO.out HT5.out (fun q hq e1 => by have := row_ge HO.out hq; omega)
   have hr9 : IsD X5 (.slice ar 2 cr) (intsD [intAt m.i lp, 0]) := (HR4.out.turns HT5.out (fun q hq e1 => by omega)).isD
   exact ⟨⟨_, rfl, _, _, _, _, rfl, hr9, (OwnD.nil _ _ _ _ _ (Nat.zero_le _) : OwnD X5 (fun _ => False) (.slice none 0 0) (pastsD [])).isD, (RowF.of_owns (cellsL_length _) ho9).own.isD, (OwnD.nil _ _ _ _ _ (Nat.zero_le _) : OwnD X5 (fun _ => False) (.slice none 0 0) (intsD [])).isD⟩, hbx⟩
end Go.Proofs.YtnccenbkpocjgaaGreat

/- A part's first events: put in one by one, or sorted: one list. -/
namespace Go.Proofs.YtnccenbkpocjgaaGreat
open Go.RowKit
def leE (a b : Ev) : Prop := ¬ b.cmp a < 0
theorem leE_trans {a b c : Ev} (h1 : leE a b) (h2 : leE b c) : leE a c := by
 unfold leE at *
 rw [cmp_lt_iff] at *
 omega
theorem lt_leE {a b : Ev} (h : a.cmp b < 0) : leE a b := by
 unfold leE
 rw [cmp_lt_iff] at *
 omega
theorem insL_perm (l : List Ev) (e : Ev) : (insL l e).Perm (e :: l) := by
 unfold insL
 refine List.perm_middle.trans ?_
 rw [List.take_append_drop]
theorem foldN_perm (lp : Nat) : ∀ (es l : List Ev), (es.foldl (stN lp) l).Perm (es.filter (fun e => decide (e.d = (lp : Int))) ++ l)
 | [], l => by simp
 | e :: es, l => by
  rw [List.foldl_cons]
  refine (foldN_perm lp es _).trans ?_
  by_cases h : e.d = (lp : Int)
  ·rw [List.filter_cons_of_pos (by simpa using h)]
   unfold stN
   rw [if_pos h]
   refine ((insL_perm l e).append_left _).trans ?_
   exact List.perm_middle
  ·rw [List.filter_cons_of_neg (by simpa using h)]
   unfold stN
   rw [if_neg h]
theorem newL_perm (lp : Nat) (es : List Ev) : (newL lp es).Perm (es.filter (fun e => decide (e.d = (lp : Int)))) := by
 have := foldN_perm lp es []
 simpa [newL] using this
theorem insL_sorted {l : List Ev} (h : l.Pairwise leE) (e : Ev) : (insL l e).Pairwise leE := by
 obtain ⟨h1, h2, h3⟩ := insP_at l e
 unfold insL
 generalize insP l e = p at h1 h2 h3
 have hl : l.take p ++ l.drop p = l := List.take_append_drop p l
 rw [← hl, List.pairwise_append] at h
 have ht : ∀ a ∈ l.take p, a.cmp e < 0 := fun a ha => by
  obtain ⟨i, hi, rfl⟩ := List.getElem_of_mem ha
  rw [List.length_take] at hi
  have := h2 i (by omega)
  simpa [evAt, show i < l.length by omega] using this
 have hd : ∀ b ∈ l.drop p, leE e b := fun b hb => by
  have hp : p < l.length := by
   rcases Nat.lt_or_ge p l.length with hlt | hge
   ·exact hlt
   ·rw [List.drop_eq_nil_of_le hge] at hb; simp at hb
  have e1 : l.drop p = evAt l p :: l.drop (p + 1) := by
   rw [List.drop_eq_getElem_cons hp]
   simp [evAt, hp]
  have h4 : leE e (evAt l p) := h3 hp
  rw [e1] at hb
  rcases List.mem_cons.1 hb with rfl | hb
  ·exact h4
  ·have h5 := h.2.1
   rw [e1, List.pairwise_cons] at h5
   exact leE_trans h4 (h5.1 b hb)
 rw [List.pairwise_append, List.pairwise_cons]
 refine ⟨h.1, ⟨hd, h.2.1⟩, fun a ha b hb => ?_⟩
 rcases List.mem_cons.1 hb with rfl | hb
 ·exact lt_leE (ht a ha)
 ·exact h.2.2 a ha b hb
theorem foldN_sorted (lp : Nat) : ∀ (es l : List Ev), l.Pairwise leE → (es.foldl (stN lp) l).Pairwise leE
 | [], l, h => h
 | e :: es, l, h => by
  rw [List.foldl_cons]
  refine foldN_sorted lp es _ ?_
  unfold stN
  split
  ·exact insL_sorted h e
  ·exact h
theorem newL_is {lp : Nat} {es l : List Ev} (hu : ∀ a b, a ∈ es → b ∈ es → a.q = b.q → a = b) (hp : l.Perm (es.filter (fun e => decide (e.d = (lp : Int))))) (hs : l.Pairwise leE) : l = newL lp es := by
 have hn := newL_perm lp es
 refine List.Perm.eq_of_pairwise (le := leE) (fun a b ha hb h1 h2 => ?_) hs (foldN_sorted lp es [] List.Pairwise.nil) (hp.trans hn.symm)
 refine hu a b (List.mem_filter.1 (hp.subset ha)).1 (List.mem_filter.1 (hn.subset hb)).1 ?_
 unfold leE at h1 h2
 rw [cmp_lt_iff] at h1 h2
 omega
end Go.Proofs.YtnccenbkpocjgaaGreat

