/- Both StateOf. -/
import Derived.Test.YthfhibnnkpbeiaaGreatExactWorldNewG01
import Derived.Test.YthfhibnnkpbeiaaGreatExactWorldNewG07
import Derived.Test.YthfhibnnkpbeiaaGreatExactWorldNewLMOkS
import Derived.Test.YthfhibnnkpbeiaaGreatExactWorldNewG20
namespace Go.Proofs.YthfhibnnkpbeiaaGreat
open Go.RowKit
theorem hidSOf {p : Prop} (h : p) : Hid p := h
def isPart (m : Md) (lp : Int) : Bool := decide (0 ≤ lp) && decide (lp < m.n)
def firstS (m : Md) (lp : Int) : St := ⟨[intAt m.i lp.toNat, 0], 0, 0⟩
def zeroS : St := ⟨[], 0, 0⟩
def stateOfR (m : Md) (lp : Int) : St := if (m.ok && isPart m lp) = true then firstS m lp else zeroS
theorem ok_init {m : Md} (h : m.ok = true) : (m.i.length : Int) = m.n := by
 simp only [Md.ok, Bool.and_eq_true, decide_eq_true_eq] at h
 exact h.1.1.1.2.2.2.2.1
theorem Bk.rowF {w : World} {P : Nat} {l : List Int} (hl : l.length ≤ maxLen) (h : Bk w P 3 (intCells l).toArray) : RowF (fun k => k = P) w (sl P l.length) l.length 1 (intCells l) := by
 refine ⟨by simp [intCells], _, _, rfl, Nat.le_refl _, hl, .inr ⟨P, rfl, rfl, h.lt, fun j hj => ⟨?_, h.free j⟩⟩⟩
 have hj' : j < (intCells l).length := by simp [intCells]; omega
 rw [h.cell (i := j) (v := (intCells l)[j]) (by simp [hj'])]
 simp [hj']
theorem made2 {w1 : World} {B C : Nat} (h : w1.ownsRow C 3 1 (.slice (some ⟨B, 0, none⟩) 2 2) 2 (madeCells (Value.int .i64 0).cells (2 * 1)).toList) : Bk w1 B 3 #[.int .i64 0, .int .i64 0] := by
 obtain ⟨hl, h | ⟨g, cap, cur, e, hg, hc, h1, h2, h3, h4⟩⟩ := h
 ·simp at h
 ·simp at e
  obtain ⟨rfl, rfl⟩ := e
  have h5 : cur.toList = (madeCells (Value.int .i64 0).cells (2 * 1)).toList := by
   rw [← h4, List.take_of_length_le (by simp; omega)]
  have h6 : (madeCells (Value.int .i64 0).cells (2 * 1)).toList = [.int .i64 0, .int .i64 0] := by kernel_rfl
  rw [h6] at h5
  unfold Bk
  rw [hc, show cur = #[.int .i64 0, .int .i64 0] from Array.toList_inj.1 h5]
set_option maxRecDepth 100000 in
set_option maxHeartbeats 4000000 in
theorem sBegin (x : Value) (m : Md) (lp : Nat) (w : World) (hlp : lp < m.i.length) (h : IsM w x m) :
  Calls Tryz.prog 94 #[x, .int .i64 lp] w fun e w' => ∃ y, e = .returned y ∧ Below w.heap.size w w' ∧ StF (fun k => w.heap.size ≤ k ∧ k < w'.heap.size) w' y ⟨[intAt m.i lp, 0], 0, 0⟩ := by
 obtain ⟨vi, vh, vs, rfl, ⟨ai, ci, rfl, hi1, hi2, hi3⟩, ⟨ah, ch, rfl, _⟩, ⟨ae, ce, rfl, _⟩⟩ := h
 obtain ⟨b, off, rfl, hb, hc⟩ := hi3.resolve_left (by intro e; rw [e] at hlp; simp at hlp)
 have f0 := hc lp hlp
 clear hc hi3
 go_enter Tryz.func94, Tryz.ntmps94
 go_wp2
 generalize intAt m.i lp = y
 obtain ⟨X, hX⟩ : ∃ X, (((w.alloc (.cells #[.int .i64 m.n, .int .i64 m.s, .slice (some ⟨b, off, none⟩) m.i.length ci, .slice ah m.h.length ch, .slice ae m.e.length ce, .int .i64 m.z] 31)).alloc (.cells #[sl (w.heap.size + 1 + 1) 2, .int .i64 0, .int .i64 0] 67)).alloc (.cells #[.int .i64 y, .int .i64 0] 3)) = X := ⟨_, rfl⟩
 have hR : Bk X (w.heap.size + 1) 67 #[sl (w.heap.size + 1 + 1) 2, .int .i64 0, .int .i64 0] := by rw [← hX]; exact (Bk.newAt (by simp) _ _).alloc _
 have hN : Bk X (w.heap.size + 1 + 1) 3 #[.int .i64 y, .int .i64 0] := by rw [← hX]; exact Bk.newAt (by simp) _ _
 have hB : Below w.heap.size w X := by rw [← hX]; exact (((Below.refl _ w).alloc (Nat.le_refl _) _).alloc (by simp) _).alloc (by simp; omega) _
 rw [hX]
 obtain ⟨t0, t1, t2⟩ := c3_3 hR
 refine bodyPost_ret (v := .agg #[sl (w.heap.size + 1 + 1) 2, .int .i64 0, .int .i64 0]) (by simp [results, Tryz.results94, go_sem, t0, t1, t2]) rfl ⟨_, rfl, hB, _, rfl, ?_⟩
 have hlt := hN.lt
 exact (Bk.rowF (l := [y, 0]) (by unfold maxLen; simp) hN).mono (fun k e => by omega)
set_option maxRecDepth 100000 in
set_option maxHeartbeats 4000000 in
theorem iBegin (x : Value) (m : Md) (lp : Nat) (w : World) (hlp : lp < m.i.length) (h : IsM w x m) :
  Calls Tryz.prog 102 #[x, .int .i64 lp] w fun e w' => ∃ y, e = .returned y ∧ Below w.heap.size w w' ∧ StF (fun k => w.heap.size ≤ k ∧ k < w'.heap.size) w' y ⟨[intAt m.i lp, 0], 0, 0⟩ := by
 obtain ⟨i0, hi, hz0, hz1, hz2⟩ := info_parts info3
 obtain ⟨vi, vh, vs, rfl, ⟨ai, ci, rfl, hi1, hi2, hi3⟩, ⟨ah, ch, rfl, _⟩, ⟨ae, ce, rfl, _⟩⟩ := h
 obtain ⟨b, off, rfl, hb, hc⟩ := hi3.resolve_left (by intro e; rw [e] at hlp; simp at hlp)
 have f0 := hc lp hlp
 clear hc hi3
 generalize intAt m.i lp = y at f0 ⊢
 obtain ⟨W0, hW0⟩ : ∃ W0, (w.alloc (.cells #[.int .i64 m.n, .int .i64 m.s, .slice (some ⟨b, off, none⟩) m.i.length ci, .slice ah m.h.length ch, .slice ae m.e.length ce, .int .i64 m.z] 31)).alloc (.cells #[.slice none 0 0, .int .i64 0, .int .i64 0] 67) = W0 := ⟨_, rfl⟩
 have HP0 : Hid (Bk W0 w.heap.size 31 #[.int .i64 m.n, .int .i64 m.s, .slice (some ⟨b, off, none⟩) m.i.length ci, .slice ah m.h.length ch, .slice ae m.e.length ce, .int .i64 m.z]) := by rw [← hW0]; exact (Bk.new _ _ _).alloc _
 have HR0 : Hid (Bk W0 (w.heap.size + 1) 67 #[.slice none 0 0, .int .i64 0, .int .i64 0]) := by rw [← hW0]; exact Bk.newAt (by simp) _ _
 have HB0 : Hid (Below w.heap.size w W0) := by rw [← hW0]; exact ((Below.refl _ w).alloc (Nat.le_refl _) _).alloc (by simp) _
 have hsz : W0.heap.size = w.heap.size + 1 + 1 := by rw [← hW0]; simp
 have HSZ := hidSOf hsz
 clear hsz
 go_enter Tryz.func102, Tryz.ntmps102
 go_wp2_with (at_make; refine wpList_make_full W0 rfl _ _ 22 rfl W0.heap.size 3 i0 _ 1 Tryz.underlying22 hi hz0 hz1 .i64 .i64 2 2 2 rfl rfl rfl rfl (by rw [hz2]; omega) (by unfold maxLen; omega) (Nat.le_refl _) ?_; intro w1 hown hgrow; have hN1 : Bk w1 W0.heap.size 3 #[.int .i64 0, .int .i64 0] := made2 hown; have hB1 : Below W0.heap.size W0 w1 := (Below.refl _ _).grown hgrow (Nat.le_refl _) (fun k e => by cases e); have hR1 := HR0.out.below hB1; have hP1 := HP0.out.below hB1; have p2 := hP1.cell (i := 2) rfl; have n0 := hN1.cell (i := 0) rfl; have nf := hN1.free; have f1 := (hB1.cell (p := ⟨b, off + lp, none⟩) (by have := HB0.out.size; show b < W0.heap.size; omega)).trans ((HB0.out.cell (p := ⟨b, off + lp, none⟩) hb).trans f0); obtain ⟨X1, hX1⟩ : ∃ X1, w1.setCell ⟨W0.heap.size, 0, none⟩ (.int .i64 y) = X1 := ⟨_, rfl⟩; have hR2 : Bk X1 (w.heap.size + 1) 67 #[.slice none 0 0, .int .i64 0, .int .i64 0] := hX1 ▸ hR1.other 0 _ (by have := HSZ.out; omega); have hN2 : Bk X1 W0.heap.size 3 #[.int .i64 y, .int .i64 0] := hX1 ▸ hN1.put 0 _; have hB2 : Below w.heap.size w X1 := (HB0.out.trans (hB1.mono HB0.out.size)).trans (by rw [← hX1]; exact (Below.refl _ _).setCell (p := ⟨W0.heap.size, 0, none⟩) HB0.out.size _); have r0 := hR2.cell (i := 0) rfl; have r1 := hR2.cell (i := 1) rfl; have r2 := hR2.cell (i := 2) rfl; have rf := hR2.free; have HR2 : Hid (Bk X1 (w.heap.size + 1) 67 #[.slice none 0 0, .int .i64 0, .int .i64 0]) := hR2; have HN2 : Hid (Bk X1 W0.heap.size 3 #[.int .i64 y, .int .i64 0]) := hN2; have HB2 : Hid (Below w.heap.size w X1) := hB2; clear hR1 hP1 hN1 hB1 hR2 hN2 hB2 hown hgrow)
 clear r0 r1 r2 rf p2 n0 nf f1 f0
 obtain ⟨X5, hX5⟩ : ∃ X5, put3 X1 (w.heap.size + 1) (sl W0.heap.size 2) (.int .i64 0) (.int .i64 0) = X5 := ⟨_, rfl⟩
 have hR := HR2.out.put3 (sl W0.heap.size 2) (.int .i64 0) (.int .i64 0)
 have ht := put3_turns X1 (w.heap.size + 1) (sl W0.heap.size 2) (.int .i64 0) (.int .i64 0)
 rw [hX5] at hR ht
 unfold put3 at hX5
 rw [hX5]
 obtain ⟨t0, t1, t2⟩ := c3_3 hR
 have hs1 := HB0.out.size
 have hs2 := HB2.out.size
 have hs3 := HSZ.out
 have hs4 := ht.size
 have hs5 := HN2.out.lt
 refine bodyPost_ret (v := .agg #[sl W0.heap.size 2, .int .i64 0, .int .i64 0]) (by simp [results, Tryz.results102, go_sem, t0, t1, t2]) rfl ⟨_, rfl, HB2.out.trans (ht.to_below (fun k e => by omega) (by omega)), _, rfl, ?_⟩
 exact ((Bk.rowF (l := [y, 0]) (by unfold maxLen; simp) HN2.out).turns ht (fun k e => by omega)).mono (fun k e => by omega)
set_option maxRecDepth 100000 in
set_option maxHeartbeats 4000000 in
theorem iStateOf (x : Value) (m : Md) (lp : Int) (w : World) (hs : SmallM m) (h : IsM w x m) :
  Calls Tryz.prog 79 #[x, .int .i64 lp] w fun e w' => ∃ y, e = .returned (.tuple #[y, .bool (m.ok && isPart m lp)]) ∧ Below w.heap.size w w' ∧ StF (fun k => w.heap.size ≤ k ∧ k < w'.heap.size) w' y (stateOfR m lp) := by
 have HX : Hid (IsM w x m) := h
 have HS : Hid (SmallM m) := hs
 obtain ⟨vi, vh, vs, rfl, ⟨ai, ci, rfl, _⟩, ⟨ah, ch, rfl, _⟩, ⟨ae, ce, rfl, _⟩⟩ := h
 obtain ⟨W0, hW0⟩ : ∃ W0, (w.alloc (.cells #[.int .i64 m.n, .int .i64 m.s, .slice ai m.i.length ci, .slice ah m.h.length ch, .slice ae m.e.length ce, .int .i64 m.z] 31)).alloc (.cells #[.slice none 0 0, .int .i64 0, .int .i64 0] 67) = W0 := ⟨_, rfl⟩
 have HP0 : Hid (Bk W0 w.heap.size 31 #[.int .i64 m.n, .int .i64 m.s, .slice ai m.i.length ci, .slice ah m.h.length ch, .slice ae m.e.length ce, .int .i64 m.z]) := by rw [← hW0]; exact (Bk.new _ _ _).alloc _
 have HR0 : Hid (Bk W0 (w.heap.size + 1) 67 #[.slice none 0 0, .int .i64 0, .int .i64 0]) := by rw [← hW0]; exact Bk.newAt (by simp) _ _
 have HB0 : Hid (Below w.heap.size w W0) := by rw [← hW0]; exact ((Below.refl _ w).alloc (Nat.le_refl _) _).alloc (by simp) _
 obtain ⟨p0, p1, p2, p3, p4, p5⟩ := c6_6 HP0.out
 clear hs
 go_enter Tryz.func79, Tryz.ntmps79
 go_wp2_with fail
 clear hW0 p0 p1 p2 p3 p4 p5
 refine (iModM _ m _ HS.out (HX.out.below HB0.out)).mono ?_
 rintro e w1 ⟨rfl, hb⟩
 have HB1 := hidSOf (HB0.out.trans (hb.mono HB0.out.size))
 have HP1 := hidSOf (HP0.out.below hb)
 have HR1 := hidSOf (HR0.out.below hb)
 have HX1 := hidSOf (HX.out.below HB1.out)
 obtain ⟨r0, r1, r2⟩ := c3_3 HR1.out
 have rf := HR1.out.free
 clear hb HB0 HP0 HR0 HX
 cases hok : m.ok with
 | false =>
  have HOK : Hid (m.ok = false) := hok
  clear hok
  go_wp2
  clear r0 r1 r2 rf
  obtain ⟨X5, hX5⟩ : ∃ X5, put3 w1 (w.heap.size + 1) (.slice none 0 0) (.int .i64 0) (.int .i64 0) = X5 := ⟨_, rfl⟩
  have hR := HR1.out.put3 (.slice none 0 0) (.int .i64 0) (.int .i64 0)
  have ht := put3_turns w1 (w.heap.size + 1) (.slice none 0 0) (.int .i64 0) (.int .i64 0)
  rw [hX5] at hR ht
  unfold put3 at hX5
  rw [hX5]
  obtain ⟨t0, t1, t2⟩ := c3_3 hR
  have hno : (m.ok && isPart m lp) = false := by rw [HOK.out]; rfl
  refine bodyPost_ret (v := .tuple #[.agg #[.slice none 0 0, .int .i64 0, .int .i64 0], .bool false]) (by simp [results, Tryz.results79, go_sem, t0, t1, t2]) rfl ⟨_, by rw [hno], HB1.out.trans (ht.to_below (fun k e => by omega) HB1.out.size), ?_⟩
  rw [show stateOfR m lp = zeroS from by simp [stateOfR, hno]]
  exact ⟨_, rfl, rfl, none, 0, rfl, Nat.le_refl _, by unfold maxLen; omega, .inl rfl⟩
 | true =>
  have HOK : Hid (m.ok = true) := hok
  clear hok
  obtain ⟨p0, p1, p2, p3, p4, p5⟩ := c6_6 HP1.out
  go_wp2_with fail
  clear p0 p1 p2 p3 p4 p5
  refine (place_any _ _ _).mono ?_
  rintro e w2 ⟨rfl, hw⟩
  have hw' := hw.symm
  clear hw
  subst hw'
  by_cases c0 : 0 ≤ lp ∧ lp < m.n
  case neg =>
   have HN : Hid ((m.ok && isPart m lp) = false) := (by rw [HOK.out]; simp [isPart]; omega : (m.ok && isPart m lp) = false)
   rw [show (decide (0 ≤ lp) && decide (lp < m.n)) = false from by simp; omega]
   go_wp2
   clear r0 r1 r2 rf
   obtain ⟨X5, hX5⟩ : ∃ X5, put3 w1 (w.heap.size + 1) (.slice none 0 0) (.int .i64 0) (.int .i64 0) = X5 := ⟨_, rfl⟩
   have hR := HR1.out.put3 (.slice none 0 0) (.int .i64 0) (.int .i64 0)
   have ht := put3_turns w1 (w.heap.size + 1) (.slice none 0 0) (.int .i64 0) (.int .i64 0)
   rw [hX5] at hR ht
   unfold put3 at hX5
   rw [hX5]
   obtain ⟨t0, t1, t2⟩ := c3_3 hR
   have hno : (m.ok && isPart m lp) = false := HN.out
   refine bodyPost_ret (v := .tuple #[.agg #[.slice none 0 0, .int .i64 0, .int .i64 0], .bool false]) (by simp [results, Tryz.results79, go_sem, t0, t1, t2]) rfl ⟨_, by rw [hno], HB1.out.trans (ht.to_below (fun k e => by omega) HB1.out.size), ?_⟩
   rw [show stateOfR m lp = zeroS from by simp [stateOfR, hno]]
   exact ⟨_, rfl, rfl, none, 0, rfl, Nat.le_refl _, by unfold maxLen; omega, .inl rfl⟩
  case pos =>
   rw [show (decide (0 ≤ lp) && decide (lp < m.n)) = true from by simp; omega]
   obtain ⟨p0, p1, p2, p3, p4, p5⟩ := c6_6 HP1.out
   go_wp2_with fail
   clear p0 p1 p2 p3 p4 p5
   clear r0 r1 r2 rf
   obtain ⟨k, rfl⟩ : ∃ k : Nat, lp = (k : Int) := ⟨lp.toNat, by omega⟩
   have hk : k < m.i.length := by have := ok_init HOK.out; omega
   refine (iBegin _ m k _ hk (HX1.out)).mono ?_
   rintro e w3 ⟨y, rfl, hb, hy⟩
   have hR2 := HR1.out.below hb
   obtain ⟨r0, r1, r2⟩ := c3_3 hR2
   have rf := hR2.free
   have HB3 := hidSOf (HB1.out.trans (hb.mono HB1.out.size))
   have HR3 := hidSOf hR2
   have HY := hidSOf hy
   have hlt := HR1.out.lt
   obtain ⟨ay, cy, rfl⟩ := hy.form
   clear hb hR2 hy
   go_wp2
   clear r0 r1 r2 rf
   obtain ⟨X5, hX5⟩ : ∃ X5, put3 w3 (w.heap.size + 1) (.slice ay 2 cy) (.int .i64 0) (.int .i64 0) = X5 := ⟨_, rfl⟩
   have hR := HR3.out.put3 (.slice ay 2 cy) (.int .i64 0) (.int .i64 0)
   have ht := put3_turns w3 (w.heap.size + 1) (.slice ay 2 cy) (.int .i64 0) (.int .i64 0)
   rw [hX5] at hR ht
   unfold put3 at hX5
   rw [hX5]
   obtain ⟨t0, t1, t2⟩ := c3_3 hR
   have hyes : (m.ok && isPart m k) = true := by simp [HOK.out, isPart]; omega
   have hs1 := HB1.out.size
   have hs2 := ht.size
   have hs3 := HB3.out.size
   refine bodyPost_ret (v := .tuple #[.agg #[.slice ay 2 cy, .int .i64 0, .int .i64 0], .bool true]) (by simp [results, Tryz.results79, go_sem, t0, t1, t2]) rfl ⟨_, by rw [hyes], HB3.out.trans (ht.to_below (fun k e => by omega) HB3.out.size), ?_⟩
   rw [show stateOfR m k = ⟨[intAt m.i k, 0], 0, 0⟩ from by rw [stateOfR, hyes]; simp [firstS]]
   exact (HY.out.turns ht (fun j e => by omega)).mono (fun j e => by omega)
end Go.Proofs.YthfhibnnkpbeiaaGreat
