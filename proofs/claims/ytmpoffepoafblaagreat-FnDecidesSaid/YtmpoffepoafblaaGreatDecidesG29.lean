/- SOf, CBeg, Rowed, SwapS -/
import Derived.Test.YtmpoffepoafblaaGreatDecidesG25
import Derived.Test.YtmpoffepoafblaaGreatDecidesLMOkS
import Derived.Test.YtmpoffepoafblaaGreatDecidesG28
import Derived.Test.YtmpoffepoafblaaGreatDecidesG26
import Derived.Test.YtmpoffepoafblaaGreatDecidesG21
import Derived.Test.YtmpoffepoafblaaGreatDecidesG01
import Derived.Laws.OwnMore
import Derived.WalkSmall
/- Both StateOf. -/
namespace Go.Proofs.YtmpoffepoafblaaGreat
open Go.RowKit
def isPart (m : Md) (lp : Int) : Bool := decide (0 ≤ lp) && decide (lp < m.n)
def firstS (m : Md) (lp : Int) : St := ⟨[intAt m.i lp.toNat, 0], 0, 0⟩
def zeroS : St := ⟨[], 0, 0⟩
def stateOfR (m : Md) (lp : Int) : St := if (m.ok && isPart m lp) = true then firstS m lp else zeroS
theorem ok_init {m : Md} (h : m.ok = true) : (m.i.length : Int) = m.n := by
  simp only [Md.ok, Bool.and_eq_true, decide_eq_true_eq] at h
  exact h.1.1.1.2.2.2.2.1
theorem Bk.rowF {w : World} {P : Nat} {l : List Int} (hl : l.length ≤ maxLen) (h : Bk w P 3 (intCells l).toArray) : RowF (fun k => k = P) w (sl P l.length) l.length 1 (intCells l) := by
  refine ⟨by simp [intCells], _, _, rfl, Nat.le_refl _, hl, .inr ⟨P, rfl, rfl, h.lt, fun j hj => ⟨?_, h.free j⟩⟩⟩
  have hj' : j < (intCells l).length := by simp [intCells]; omega
  rw [h.cell (i := j) (v := (intCells l)[j]) (by simp [hj'])]
  simp [hj']
theorem made2 {w1 : World} {B C : Nat} (h : w1.ownsRow C 3 1 (.slice (some ⟨B, 0, none⟩) 2 2) 2 (madeCells (Value.int .i64 0).cells (2 * 1)).toList) : Bk w1 B 3 #[.int .i64 0, .int .i64 0] := by
  obtain ⟨hl, h | ⟨g, cap, cur, e, hg, hc, h1, h2, h3, h4⟩⟩ := h
  · simp at h
  · simp at e
    obtain ⟨rfl, rfl⟩ := e
    have h5 : cur.toList = (madeCells (Value.int .i64 0).cells (2 * 1)).toList := by
      rw [← h4, List.take_of_length_le (by simp; omega)]
    have h6 : (madeCells (Value.int .i64 0).cells (2 * 1)).toList = [.int .i64 0, .int .i64 0] := by kernel_rfl
    rw [h6] at h5
    unfold Bk
    rw [hc, show cur = #[.int .i64 0, .int .i64 0] from Array.toList_inj.1 h5]
set_option maxRecDepth 100000 in
set_option maxHeartbeats 4000000 in
theorem sBegin (x : Value) (m : Md) (lp : Nat) (w : World) (hlp : lp < m.i.length) (h : IsM w x m) :
    Calls Tryz.prog 141 #[x, .int .i64 lp] w fun e w' => ∃ y, e = .returned y ∧ Below w.heap.size w w' ∧ StF (fun k => w.heap.size ≤ k ∧ k < w'.heap.size) w' y ⟨[intAt m.i lp, 0], 0, 0⟩ := by
  obtain ⟨vi, vh, vs, rfl, ⟨ai, ci, rfl, hi1, hi2, hi3⟩, ⟨ah, ch, rfl, _⟩, ⟨ae, ce, rfl, _⟩⟩ := h
  obtain ⟨b, off, rfl, hb, hc⟩ := hi3.resolve_left (by intro e; rw [e] at hlp; simp at hlp)
  have f0 := hc lp hlp
  clear hc hi3
  go_enter Tryz.func141, Tryz.ntmps141
  go_wp2
  generalize intAt m.i lp = y
  obtain ⟨X, hX⟩ : ∃ X, (((w.alloc (.cells #[.int .i64 m.n, .int .i64 m.s, .slice (some ⟨b, off, none⟩) m.i.length ci, .slice ah m.h.length ch, .slice ae m.e.length ce, .int .i64 m.z] 36)).alloc (.cells #[sl (w.heap.size + 1 + 1) 2, .int .i64 0, .int .i64 0] 48)).alloc (.cells #[.int .i64 y, .int .i64 0] 3)) = X := ⟨_, rfl⟩
  have hR : Bk X (w.heap.size + 1) 48 #[sl (w.heap.size + 1 + 1) 2, .int .i64 0, .int .i64 0] := by rw [← hX]; exact (Bk.newAt (by simp) _ _).alloc _
  have hN : Bk X (w.heap.size + 1 + 1) 3 #[.int .i64 y, .int .i64 0] := by rw [← hX]; exact Bk.newAt (by simp) _ _
  have hB : Below w.heap.size w X := by rw [← hX]; exact (((Below.refl _ w).alloc (Nat.le_refl _) _).alloc (by simp) _).alloc (by simp; omega) _
  rw [hX]
  have t0 := hR.cell (i := 0) rfl
  have t1 := hR.cell (i := 1) rfl
  have t2 := hR.cell (i := 2) rfl
  refine bodyPost_ret (v := .agg #[sl (w.heap.size + 1 + 1) 2, .int .i64 0, .int .i64 0]) (by simp [results, Tryz.results141, go_sem, t0, t1, t2]) rfl ⟨_, rfl, hB, _, rfl, ?_⟩
  have hlt := hN.lt
  exact (Bk.rowF (l := [y, 0]) (by unfold maxLen; simp) hN).mono (fun k e => by omega)
set_option maxRecDepth 100000 in
set_option maxHeartbeats 4000000 in
theorem iBegin (x : Value) (m : Md) (lp : Nat) (w : World) (hlp : lp < m.i.length) (h : IsM w x m) :
    Calls Tryz.prog 150 #[x, .int .i64 lp] w fun e w' => ∃ y, e = .returned y ∧ Below w.heap.size w w' ∧ StF (fun k => w.heap.size ≤ k ∧ k < w'.heap.size) w' y ⟨[intAt m.i lp, 0], 0, 0⟩ := by
  obtain ⟨i0, hi, hz0, hz1, hz2⟩ := info_parts info3
  obtain ⟨vi, vh, vs, rfl, ⟨ai, ci, rfl, hi1, hi2, hi3⟩, ⟨ah, ch, rfl, _⟩, ⟨ae, ce, rfl, _⟩⟩ := h
  obtain ⟨b, off, rfl, hb, hc⟩ := hi3.resolve_left (by intro e; rw [e] at hlp; simp at hlp)
  have f0 := hc lp hlp
  clear hc hi3
  generalize intAt m.i lp = y at f0 ⊢
  obtain ⟨W0, hW0⟩ : ∃ W0, (w.alloc (.cells #[.int .i64 m.n, .int .i64 m.s, .slice (some ⟨b, off, none⟩) m.i.length ci, .slice ah m.h.length ch, .slice ae m.e.length ce, .int .i64 m.z] 36)).alloc (.cells #[.slice none 0 0, .int .i64 0, .int .i64 0] 48) = W0 := ⟨_, rfl⟩
  have HP0 : Hid (Bk W0 w.heap.size 36 #[.int .i64 m.n, .int .i64 m.s, .slice (some ⟨b, off, none⟩) m.i.length ci, .slice ah m.h.length ch, .slice ae m.e.length ce, .int .i64 m.z]) := by rw [← hW0]; exact (Bk.new _ _ _).alloc _
  have HR0 : Hid (Bk W0 (w.heap.size + 1) 48 #[.slice none 0 0, .int .i64 0, .int .i64 0]) := by rw [← hW0]; exact Bk.newAt (by simp) _ _
  have HB0 : Hid (Below w.heap.size w W0) := by rw [← hW0]; exact ((Below.refl _ w).alloc (Nat.le_refl _) _).alloc (by simp) _
  have hsz : W0.heap.size = w.heap.size + 1 + 1 := by rw [← hW0]; simp
  have HSZ : Hid (W0.heap.size = w.heap.size + 1 + 1) := hsz
  clear hsz
  go_enter Tryz.func150, Tryz.ntmps150
  go_wp2_with (at_make; refine wpList_make_full W0 rfl _ _ 22 rfl W0.heap.size 3 i0 _ 1 Tryz.underlying22 hi hz0 hz1 .i64 .i64 2 2 2 rfl rfl rfl rfl (by rw [hz2]; omega) (by unfold maxLen; omega) (Nat.le_refl _) ?_; intro w1 hown hgrow; have hN1 : Bk w1 W0.heap.size 3 #[.int .i64 0, .int .i64 0] := made2 hown; have hB1 : Below W0.heap.size W0 w1 := (Below.refl _ _).grown hgrow (Nat.le_refl _) (fun k e => by cases e); have hR1 := HR0.out.below hB1; have hP1 := HP0.out.below hB1; have p2 := hP1.cell (i := 2) rfl; have n0 := hN1.cell (i := 0) rfl; have nf := hN1.free; have f1 := (hB1.cell (p := ⟨b, off + lp, none⟩) (by have := HB0.out.size; show b < W0.heap.size; omega)).trans ((HB0.out.cell (p := ⟨b, off + lp, none⟩) hb).trans f0); obtain ⟨X1, hX1⟩ : ∃ X1, w1.setCell ⟨W0.heap.size, 0, none⟩ (.int .i64 y) = X1 := ⟨_, rfl⟩; have hR2 : Bk X1 (w.heap.size + 1) 48 #[.slice none 0 0, .int .i64 0, .int .i64 0] := hX1 ▸ hR1.other 0 _ (by have := HSZ.out; omega); have hN2 : Bk X1 W0.heap.size 3 #[.int .i64 y, .int .i64 0] := hX1 ▸ hN1.put 0 _; have hB2 : Below w.heap.size w X1 := (HB0.out.trans (hB1.mono HB0.out.size)).trans (by rw [← hX1]; exact (Below.refl _ _).setCell (p := ⟨W0.heap.size, 0, none⟩) HB0.out.size _); have r0 := hR2.cell (i := 0) rfl; have r1 := hR2.cell (i := 1) rfl; have r2 := hR2.cell (i := 2) rfl; have rf := hR2.free; have HR2 : Hid (Bk X1 (w.heap.size + 1) 48 #[.slice none 0 0, .int .i64 0, .int .i64 0]) := hR2; have HN2 : Hid (Bk X1 W0.heap.size 3 #[.int .i64 y, .int .i64 0]) := hN2; have HB2 : Hid (Below w.heap.size w X1) := hB2; clear hR1 hP1 hN1 hB1 hR2 hN2 hB2 hown hgrow)
  clear r0 r1 r2 rf p2 n0 nf f1 f0
  obtain ⟨X5, hX5⟩ : ∃ X5, put3 X1 (w.heap.size + 1) (sl W0.heap.size 2) (.int .i64 0) (.int .i64 0) = X5 := ⟨_, rfl⟩
  have hR := HR2.out.put3 (sl W0.heap.size 2) (.int .i64 0) (.int .i64 0)
  have ht := put3_turns X1 (w.heap.size + 1) (sl W0.heap.size 2) (.int .i64 0) (.int .i64 0)
  rw [hX5] at hR ht
  unfold put3 at hX5
  rw [hX5]
  have t0 := hR.cell (i := 0) rfl
  have t1 := hR.cell (i := 1) rfl
  have t2 := hR.cell (i := 2) rfl
  have hs1 := HB0.out.size
  have hs2 := HB2.out.size
  have hs3 := HSZ.out
  have hs4 := ht.size
  have hs5 := HN2.out.lt
  refine bodyPost_ret (v := .agg #[sl W0.heap.size 2, .int .i64 0, .int .i64 0]) (by simp [results, Tryz.results150, go_sem, t0, t1, t2]) rfl ⟨_, rfl, HB2.out.trans (ht.to_below (fun k e => by omega) (by omega)), _, rfl, ?_⟩
  exact ((Bk.rowF (l := [y, 0]) (by unfold maxLen; simp) HN2.out).turns ht (fun k e => by omega)).mono (fun k e => by omega)
set_option maxRecDepth 100000 in
set_option maxHeartbeats 4000000 in
theorem iStateOf (x : Value) (m : Md) (lp : Int) (w : World) (hs : SmallM m) (h : IsM w x m) :
    Calls Tryz.prog 101 #[x, .int .i64 lp] w fun e w' => ∃ y, e = .returned (.tuple #[y, .bool (m.ok && isPart m lp)]) ∧ Below w.heap.size w w' ∧ StF (fun k => w.heap.size ≤ k ∧ k < w'.heap.size) w' y (stateOfR m lp) := by
  have HX : Hid (IsM w x m) := h
  have HS : Hid (SmallM m) := hs
  obtain ⟨vi, vh, vs, rfl, ⟨ai, ci, rfl, _⟩, ⟨ah, ch, rfl, _⟩, ⟨ae, ce, rfl, _⟩⟩ := h
  obtain ⟨W0, hW0⟩ : ∃ W0, (w.alloc (.cells #[.int .i64 m.n, .int .i64 m.s, .slice ai m.i.length ci, .slice ah m.h.length ch, .slice ae m.e.length ce, .int .i64 m.z] 36)).alloc (.cells #[.slice none 0 0, .int .i64 0, .int .i64 0] 48) = W0 := ⟨_, rfl⟩
  have HP0 : Hid (Bk W0 w.heap.size 36 #[.int .i64 m.n, .int .i64 m.s, .slice ai m.i.length ci, .slice ah m.h.length ch, .slice ae m.e.length ce, .int .i64 m.z]) := by rw [← hW0]; exact (Bk.new _ _ _).alloc _
  have HR0 : Hid (Bk W0 (w.heap.size + 1) 48 #[.slice none 0 0, .int .i64 0, .int .i64 0]) := by rw [← hW0]; exact Bk.newAt (by simp) _ _
  have HB0 : Hid (Below w.heap.size w W0) := by rw [← hW0]; exact ((Below.refl _ w).alloc (Nat.le_refl _) _).alloc (by simp) _
  have p0 := HP0.out.cell (i := 0) rfl
  have p1 := HP0.out.cell (i := 1) rfl
  have p2 := HP0.out.cell (i := 2) rfl
  have p3 := HP0.out.cell (i := 3) rfl
  have p4 := HP0.out.cell (i := 4) rfl
  have p5 := HP0.out.cell (i := 5) rfl
  clear hs
  go_enter Tryz.func101, Tryz.ntmps101
  go_wp2_with fail
  clear hW0 p0 p1 p2 p3 p4 p5
  refine (iModM _ m _ HS.out (HX.out.below HB0.out)).mono ?_
  rintro e w1 ⟨rfl, hb⟩
  have HB1 : Hid (Below w.heap.size w w1) := HB0.out.trans (hb.mono HB0.out.size)
  have HP1 : Hid (Bk w1 w.heap.size 36 #[.int .i64 m.n, .int .i64 m.s, .slice ai m.i.length ci, .slice ah m.h.length ch, .slice ae m.e.length ce, .int .i64 m.z]) := HP0.out.below hb
  have HR1 : Hid (Bk w1 (w.heap.size + 1) 48 #[.slice none 0 0, .int .i64 0, .int .i64 0]) := HR0.out.below hb
  have HX1 : Hid (IsM w1 (.agg #[.int .i64 m.n, .int .i64 m.s, .slice ai m.i.length ci, .slice ah m.h.length ch, .slice ae m.e.length ce, .int .i64 m.z]) m) := HX.out.below HB1.out
  have r0 := HR1.out.cell (i := 0) rfl
  have r1 := HR1.out.cell (i := 1) rfl
  have r2 := HR1.out.cell (i := 2) rfl
  have rf := HR1.out.free
  clear hb HB0 HP0 HR0 HX
  cases hok : m.ok with
  | false =>
    have HOK : Hid (m.ok = false) := hok
    clear hok
    go_wp2
    clear r0 r1 r2 rf
    obtain ⟨X5, hX5⟩ : ∃ X5, put3 w1 (w.heap.size + 1) (.slice none 0 0) (.int .i64 0) (.int .i64 0) = X5 := ⟨_, rfl⟩
    have hR := HR1.out.put3 (.slice none 0 0) (.int .i64 0) (.int .i64 0)
    have ht := put3_turns w1 (w.heap.size + 1) (.slice none 0 0) (.int .i64 0) (.int .i64 0)
    rw [hX5] at hR ht
    unfold put3 at hX5
    rw [hX5]
    have t0 := hR.cell (i := 0) rfl
    have t1 := hR.cell (i := 1) rfl
    have t2 := hR.cell (i := 2) rfl
    have hno : (m.ok && isPart m lp) = false := by rw [HOK.out]; rfl
    refine bodyPost_ret (v := .tuple #[.agg #[.slice none 0 0, .int .i64 0, .int .i64 0], .bool false]) (by simp [results, Tryz.results101, go_sem, t0, t1, t2]) rfl ⟨_, by rw [hno], HB1.out.trans (ht.to_below (fun k e => by omega) HB1.out.size), ?_⟩
    rw [show stateOfR m lp = zeroS from by simp [stateOfR, hno]]
    exact ⟨_, rfl, rfl, none, 0, rfl, Nat.le_refl _, by unfold maxLen; omega, .inl rfl⟩
  | true =>
    have HOK : Hid (m.ok = true) := hok
    clear hok
    have p0 := HP1.out.cell (i := 0) rfl
    have p1 := HP1.out.cell (i := 1) rfl
    have p2 := HP1.out.cell (i := 2) rfl
    have p3 := HP1.out.cell (i := 3) rfl
    have p4 := HP1.out.cell (i := 4) rfl
    have p5 := HP1.out.cell (i := 5) rfl
    go_wp2_with fail
    clear p0 p1 p2 p3 p4 p5
    refine (place_any _ _ _).mono ?_
    rintro e w2 ⟨rfl, hw⟩
    have hw' := hw.symm
    clear hw
    subst hw'
    by_cases c0 : 0 ≤ lp ∧ lp < m.n
    case neg =>
      have HN : Hid ((m.ok && isPart m lp) = false) := (by rw [HOK.out]; simp [isPart]; omega : (m.ok && isPart m lp) = false)
      rw [show (decide (0 ≤ lp) && decide (lp < m.n)) = false from by simp; omega]
      go_wp2
      clear r0 r1 r2 rf
      obtain ⟨X5, hX5⟩ : ∃ X5, put3 w1 (w.heap.size + 1) (.slice none 0 0) (.int .i64 0) (.int .i64 0) = X5 := ⟨_, rfl⟩
      have hR := HR1.out.put3 (.slice none 0 0) (.int .i64 0) (.int .i64 0)
      have ht := put3_turns w1 (w.heap.size + 1) (.slice none 0 0) (.int .i64 0) (.int .i64 0)
      rw [hX5] at hR ht
      unfold put3 at hX5
      rw [hX5]
      have t0 := hR.cell (i := 0) rfl
      have t1 := hR.cell (i := 1) rfl
      have t2 := hR.cell (i := 2) rfl
      have hno : (m.ok && isPart m lp) = false := HN.out
      refine bodyPost_ret (v := .tuple #[.agg #[.slice none 0 0, .int .i64 0, .int .i64 0], .bool false]) (by simp [results, Tryz.results101, go_sem, t0, t1, t2]) rfl ⟨_, by rw [hno], HB1.out.trans (ht.to_below (fun k e => by omega) HB1.out.size), ?_⟩
      rw [show stateOfR m lp = zeroS from by simp [stateOfR, hno]]
      exact ⟨_, rfl, rfl, none, 0, rfl, Nat.le_refl _, by unfold maxLen; omega, .inl rfl⟩
    case pos =>
      rw [show (decide (0 ≤ lp) && decide (lp < m.n)) = true from by simp; omega]
      have p0 := HP1.out.cell (i := 0) rfl
      have p1 := HP1.out.cell (i := 1) rfl
      have p2 := HP1.out.cell (i := 2) rfl
      have p3 := HP1.out.cell (i := 3) rfl
      have p4 := HP1.out.cell (i := 4) rfl
      have p5 := HP1.out.cell (i := 5) rfl
      go_wp2_with fail
      clear p0 p1 p2 p3 p4 p5
      clear r0 r1 r2 rf
      obtain ⟨k, rfl⟩ : ∃ k : Nat, lp = (k : Int) := ⟨lp.toNat, by omega⟩
      have hk : k < m.i.length := by have := ok_init HOK.out; omega
      refine (iBegin _ m k _ hk (HX1.out)).mono ?_
      rintro e w3 ⟨y, rfl, hb, hy⟩
      have hR2 := HR1.out.below hb
      have r0 := hR2.cell (i := 0) rfl
      have r1 := hR2.cell (i := 1) rfl
      have r2 := hR2.cell (i := 2) rfl
      have rf := hR2.free
      have HB3 : Hid (Below w.heap.size w w3) := HB1.out.trans (hb.mono HB1.out.size)
      have HR3 : Hid (Bk w3 (w.heap.size + 1) 48 #[.slice none 0 0, .int .i64 0, .int .i64 0]) := hR2
      have HY : Hid (StF (fun k => w1.heap.size ≤ k ∧ k < w3.heap.size) w3 y ⟨[intAt m.i k, 0], 0, 0⟩) := hy
      have hlt := HR1.out.lt
      obtain ⟨ay, cy, rfl⟩ := hy.form
      clear hb hR2 hy
      go_wp2
      clear r0 r1 r2 rf
      obtain ⟨X5, hX5⟩ : ∃ X5, put3 w3 (w.heap.size + 1) (.slice ay 2 cy) (.int .i64 0) (.int .i64 0) = X5 := ⟨_, rfl⟩
      have hR := HR3.out.put3 (.slice ay 2 cy) (.int .i64 0) (.int .i64 0)
      have ht := put3_turns w3 (w.heap.size + 1) (.slice ay 2 cy) (.int .i64 0) (.int .i64 0)
      rw [hX5] at hR ht
      unfold put3 at hX5
      rw [hX5]
      have t0 := hR.cell (i := 0) rfl
      have t1 := hR.cell (i := 1) rfl
      have t2 := hR.cell (i := 2) rfl
      have hyes : (m.ok && isPart m k) = true := by simp [HOK.out, isPart]; omega
      have hs1 := HB1.out.size
      have hs2 := ht.size
      have hs3 := HB3.out.size
      refine bodyPost_ret (v := .tuple #[.agg #[.slice ay 2 cy, .int .i64 0, .int .i64 0], .bool true]) (by simp [results, Tryz.results101, go_sem, t0, t1, t2]) rfl ⟨_, by rw [hyes], HB3.out.trans (ht.to_below (fun k e => by omega) HB3.out.size), ?_⟩
      rw [show stateOfR m k = ⟨[intAt m.i k, 0], 0, 0⟩ from by rw [stateOfR, hyes]; simp [firstS]]
      exact (HY.out.turns ht (fun j e => by omega)).mono (fun j e => by omega)
end Go.Proofs.YtmpoffepoafblaaGreat

/- How a course begins. -/
namespace Go.Proofs.YtmpoffepoafblaaGreat
open Go.RowKit
def bares (l : List Ev) : List Ev := l.map Ev.bare
theorem bares_length (l : List Ev) : (bares l).length = l.length := by simp [bares]
theorem bares_at (l : List Ev) (i : Nat) (h : i < l.length) : evAt (bares l) i = (evAt l i).bare := by
  simp [evAt, bares, h]
theorem bares_same {l : List Ev} (h : ∀ i, i < l.length → (evAt l i).g = 0) : bares l = l := by
  refine ext_ev (bares_length l) fun j hj => ?_
  rw [bares_length] at hj
  rw [bares_at _ _ hj]
  have := h j hj
  generalize evAt l j = e at this ⊢
  cases e
  simp only [Ev.bare, Ev.mk.injEq, true_and]
  exact this.symm
def firsts (m : Md) (n : Nat) : List St := (List.range n).map fun j : Nat => firstS m (j : Int)
theorem firsts_length (m : Md) (n : Nat) : (firsts m n).length = n := by simp [firsts]
theorem firsts_at (m : Md) (n j : Nat) (h : j < n) : stAt (firsts m n) j = firstS m (j : Int) := by simp [firsts, stAt, h]
theorem firsts_snoc (m : Md) (n : Nat) : firsts m (n + 1) = firsts m n ++ [firstS m (n : Int)] := by simp [firsts, List.range_succ]
/- The start, in order: as it stands in the specification, each one goes in. -/
def startO : List Ev → List Ev → List Ev
  | t, [] => t
  | t, e :: l => startO (insO t e.bare) l
theorem startO_snoc : ∀ (l t : List Ev) (e : Ev), startO t (l ++ [e]) = insO (startO t l) e.bare
  | [], t, e => rfl
  | x :: l, t, e => by
    show startO _ (l ++ [e]) = _
    rw [startO_snoc l]
    rfl
theorem startO_plan (z : Int) : ∀ (l t : List Ev), (∀ i, i < l.length → (evAt l i).t ≤ z) → startO t l = planO z t (bares l)
  | [], t, _ => rfl
  | e :: l, t, h => by
    have h0 := h 0 (by simp)
    rw [evAt_head] at h0
    have hr : ∀ i, i < l.length → (evAt l i).t ≤ z := fun i hi => by
      have := h (i + 1) (by simpa using hi)
      rwa [evAt_cons] at this
    show startO (insO t e.bare) l = planO z (if e.bare.t ≤ z then insO t e.bare else t) (bares l)
    rw [if_pos (show e.bare.t ≤ z from h0)]
    exact startO_plan z l _ hr
theorem startO_length : ∀ (l t : List Ev), (startO t l).length = t.length + l.length
  | [], t => by simp [startO]
  | e :: l, t => by
    have := startO_length l (insO t e.bare)
    rw [insO_length] at this
    simp only [startO, List.length_cons]
    omega
def begC (m : Md) : Co := ⟨startO [] m.e, firsts m m.n.toNat, [], []⟩
def begH (m : Md) : Co := ⟨planH m.z [] (bares m.e), firsts m m.n.toNat, [], []⟩
theorem ok_start {m : Md} (h : m.ok = true) {j : Nat} (hj : j < m.e.length) : (evAt m.e j).ok = true ∧ (evAt m.e j).s = -1 ∧ (evAt m.e j).q = (j : Int) ∧ (evAt m.e j).d < m.n ∧ (evAt m.e j).k < (m.h.length : Int) ∧ (evAt m.e j).t ≤ m.z := by
  simp only [Md.ok, Bool.and_eq_true, Md.okE, List.all_eq_true] at h
  have h1 := h.2 j (by simpa using hj)
  simp only [stB, Bool.and_eq_true, decide_eq_true_eq] at h1
  exact ⟨h1.1, h1.2.1, h1.2.2.1, h1.2.2.2.2.1, h1.2.2.2.2.2.1, h1.2.2.2.2.2.2⟩
theorem ok_inits {m : Md} (h : m.ok = true) {j : Nat} (hj : j < m.i.length) : 0 ≤ intAt m.i j ∧ intAt m.i j ≤ 999 := by
  simp only [Md.ok, Bool.and_eq_true, Md.okI, List.all_eq_true] at h
  have h1 := h.1.1.2 j (by simpa using hj)
  simpa [inB] using h1
theorem ok_len6 {m : Md} (h : m.ok = true) : m.e.length ≤ 6 := by
  simp only [Md.ok, Bool.and_eq_true] at h
  have hd : m.hd := of_decide_eq_true h.1.1.1
  exact hd.2.2.2.2.2.2.2.1
theorem bare_ok {e : Ev} (h : e.ok = true) : e.bare.ok = true := by
  simp only [Ev.ok, okB, decide_eq_true_eq] at h
  obtain ⟨h1, h2, h3, h4, h5, h6, h7, h8, h9, h10, h11, h12, _⟩ := h
  show okB e.t e.s e.q e.d e.k e.v 0 = true
  unfold okB
  exact decide_eq_true ⟨h1, h2, h3, h4, h5, h6, h7, h8, h9, h10, h11, h12, by omega, by omega⟩
theorem beg_alike {m : Md} (h : m.ok = true) : Alike (begH m).td (begC m).td := by
  show Alike (planH m.z [] (bares m.e)) (startO [] m.e)
  rw [startO_plan m.z m.e [] fun i hi => (ok_start h hi).2.2.2.2.2]
  refine plan_alike (d := -1) _ 0 _ _ alike_nil (fun x hx => ?_) fun i hi => ?_
  · obtain ⟨j, hj, _⟩ := hx
    simp at hj
  · rw [bares_length] at hi
    rw [bares_at _ _ hi]
    have := ok_start h hi
    exact ⟨this.2.1, by show (evAt m.e i).q = _; rw [this.2.2.1]; omega⟩
theorem beg_inv {m : Md} (h : m.ok = true) : Inv m (begC m) := by
  obtain ⟨_, _, hn0, hn1, _, _, _⟩ := ok_seed h
  have hi := ok_init h
  refine ⟨?_, fun j hj => ?_, fun x hx => ?_, ?_, Nat.le_refl _, Nat.zero_le _⟩
  · show ((firsts m m.n.toNat).length : Int) = m.n
    rw [firsts_length]; omega
  · have hj' : j < m.n.toNat := by have := firsts_length m m.n.toNat; have hjj : j < (firsts m m.n.toNat).length := hj; omega
    show (stAt (firsts m m.n.toNat) j).ok = true ∧ (stAt (firsts m m.n.toNat) j).q ≤ 8 * (0 : Int) ∧ (stAt (firsts m m.n.toNat) j).d ≤ 8 * (0 : Int)
    rw [firsts_at _ _ _ hj']
    have := ok_inits h (j := j) (by omega)
    refine ⟨?_, by simp [firstS], by simp [firstS]⟩
    have e0 : intAt (firstS m (j : Int)).r 0 = intAt m.i j := by simp [firstS, intAt]
    have e1 : intAt (firstS m (j : Int)).r 1 = 0 := by simp [firstS, intAt]
    simp only [St.ok, decide_eq_true_eq, e0, e1]
    exact ⟨rfl, this, ⟨by omega, by omega⟩, by simp [firstS], by simp [firstS], by simp [firstS], by simp [firstS]⟩
  · have hx' : InL x (startO [] m.e) := hx
    rw [startO_plan m.z m.e [] fun i hi => (ok_start h hi).2.2.2.2.2] at hx'
    rcases inL_planO hx' with ⟨j, hj, _⟩ | ⟨⟨j, hj, hje⟩, hz⟩
    · simp at hj
    · rw [bares_length] at hj
      rw [bares_at _ _ hj] at hje
      have ho := ok_start h hj
      subst hje
      exact ⟨bare_ok ho.1, rfl, ho.2.2.2.1, ho.2.2.2.2.1, hz, .inl ho.2.1⟩
  · show (startO [] m.e).length ≤ 6 + 8 * 0
    rw [startO_length]
    have := ok_len6 h
    simp
    omega
/- What a model comes to, up to z. -/
def seqR (m : Md) (v : List Int) (z : Int) : Hi := seqG (·.drop 1) (planO m.z) m v z 151 (begC m)
theorem seqR_heap {m : Md} {c0 c1 c2 c3 : Int} (hm : m.ok = true) (hv : ∀ a : Int, -1 ≤ vecAt c0 c1 c2 c3 a ∧ vecAt c0 c1 c2 c3 a ≤ 1) (z : Int) :
    seqG (takeL · 0) (planH m.z) m [c0, c1, c2, c3] z 151 (begH m) = seqR m [c0, c1, c2, c3] z :=
  seq_same hm hv 151 (begC m) _ (beg_inv hm) (beg_alike hm)
end Go.Proofs.YtmpoffepoafblaaGreat

/- A row of events of one's own, whose places are written; what turns beside it. -/
namespace Go.Proofs.YtmpoffepoafblaaGreat
open Go.RowKit

def Row (w : World) (B g cap : Nat) (l : List Ev) : Prop := w.ownsRow B 50 7 (.slice (some ⟨g, 0, none⟩) l.length cap) l.length (cellsL l)
theorem cellsL_set : ∀ (l : List Ev) (i : Nat) (e : Ev), i < l.length →
    (((((((cellsL l).set (i * 7) (.int .i64 e.t)).set (i * 7 + 1) (.int .i64 e.s)).set (i * 7 + 2) (.int .i64 e.q)).set (i * 7 + 3) (.int .i64 e.d)).set (i * 7 + 4) (.int .i64 e.k)).set (i * 7 + 5) (.int .i64 e.v)).set (i * 7 + 6) (.int .i64 e.g) = cellsL (l.set i e)
  | [], _, _, h => by simp at h
  | a :: l, 0, e, _ => by simp [cellsL, Ev.cs]
  | a :: l, i + 1, e, h => by
    have ih := cellsL_set l i e (by simpa using h)
    have hk0 : (i + 1) * 7 = i * 7 + 1 + 1 + 1 + 1 + 1 + 1 + 1 := by omega
    simp only [cellsL, Ev.cs, List.cons_append, List.nil_append, List.set_cons_succ, hk0, ih]
theorem Row.put {w : World} {B g cap : Nat} {l : List Ev} (h : Row w B g cap l) {i : Nat} (hi : i < l.length) (e : Ev) : Row (put7 w g (i * 7) e) B g cap (l.set i e) := by
  have h0 := (World.ownsRow.stored h (i * 7) (.int .i64 e.t)).1
  have h1 := (World.ownsRow.stored h0 (i * 7 + 1) (.int .i64 e.s)).1
  have h2 := (World.ownsRow.stored h1 (i * 7 + 2) (.int .i64 e.q)).1
  have h3 := (World.ownsRow.stored h2 (i * 7 + 3) (.int .i64 e.d)).1
  have h4 := (World.ownsRow.stored h3 (i * 7 + 4) (.int .i64 e.k)).1
  have h5 := (World.ownsRow.stored h4 (i * 7 + 5) (.int .i64 e.v)).1
  have h6 := (World.ownsRow.stored h5 (i * 7 + 6) (.int .i64 e.g)).1
  unfold Row
  rw [List.length_set, ← cellsL_set l i e hi]
  exact h6
theorem Row.lt {w : World} {B g cap : Nat} {l : List Ev} (h : Row w B g cap l) : B ≤ g ∧ g < w.heap.size := World.ownsRow.lt h g rfl
theorem Row.caps {w : World} {B g cap : Nat} {l : List Ev} (h : Row w B g cap l) : l.length ≤ cap ∧ cap ≤ maxLen := by
  obtain ⟨_, ⟨h, _⟩ | ⟨g', cap', cur, e, _, _, h1, h2, _⟩⟩ := h
  · cases h
  · cases e; exact ⟨h1, h2⟩
theorem Row.ev {w : World} {B g cap : Nat} {l : List Ev} (h : Row w B g cap l) {i : Nat} (hi : i < l.length) : Ev.In w g (i * 7) (evAt l i) := by
  have hget : ∀ r, r < 7 → w.cell? ⟨g, i * 7 + r, none⟩ = (evAt l i).cs[r]? := fun r hr => by
    rw [World.ownsRow.cellAt h (i * 7 + r) (by omega), cellsL_get l i r hi hr]
  exact ⟨hget 0 (by omega), hget 1 (by omega), hget 2 (by omega), hget 3 (by omega), hget 4 (by omega), hget 5 (by omega), hget 6 (by omega)⟩
theorem Row.frozen {w : World} {B g cap : Nat} {l : List Ev} (h : Row w B g cap l) (j : Nat) : w.frozen? ⟨g, j, none⟩ = false := World.ownsRow.frozenAt h j
theorem Row.evs {w : World} {B g cap : Nat} {l : List Ev} (h : Row w B g cap l) : EvsAt w g 0 l := ⟨h.lt.2, fun i hi => by rw [Nat.zero_add]; exact h.ev hi⟩
theorem Row.same {w w' : World} {B g cap : Nat} {l : List Ev} (h : Row w B g cap l) (hb : w'.heap[g]? = w.heap[g]?) : Row w' B g cap l := by
  obtain ⟨h0, ⟨h, _⟩ | ⟨g', cap', cur, e, hg, hc, h1, h2, h3, h4⟩⟩ := h
  · cases h
  · cases e; exact ⟨h0, .inr ⟨g, cap, cur, rfl, hg, hb.trans hc, h1, h2, h3, h4⟩⟩
theorem Row.below {w w' : World} {B B' g cap : Nat} {l : List Ev} (h : Row w B g cap l) (hb : Below B' w w') (hB : g < B') : Row w' B g cap l := h.same (hb.block g hB)
theorem Row.base {w : World} {B B' g cap : Nat} {l : List Ev} (h : Row w B g cap l) (hB : B' ≤ g) : Row w B' g cap l := by
  obtain ⟨h0, ⟨h, _⟩ | ⟨g', cap', cur, e, hg, hc, h1, h2, h3, h4⟩⟩ := h
  · cases h
  · cases e; exact ⟨h0, .inr ⟨g, cap, cur, rfl, hB, hc, h1, h2, h3, h4⟩⟩
theorem Row.own {w : World} {B g cap : Nat} {l : List Ev} (h : Row w B g cap l) : OwnEvs B w (.slice (some ⟨g, 0, none⟩) l.length cap) l := OwnEvs.of_row h
theorem Row.drew {w : World} {B g cap : Nat} {l : List Ev} (h : Row w B g cap l) : Row w.drew B g cap l := World.ownsRow.drew h
theorem Row.pop {w : World} {B g cap : Nat} {l : List Ev} {e : Ev} (h : Row w B g cap (l ++ [e])) : Row w B g cap l := by
  unfold Row at h
  rw [List.length_append, List.length_singleton, cellsL_append] at h
  exact ownsRow_pop (cellsL_length l) h

/- All blocks but those of S stay as they were. -/
theorem Turns.put {S : Nat → Prop} {a w : World} (h : Turns S a w) {g : Nat} (hg : S g) (o : Nat) (e : Ev) : Turns S a (put7 w g o e) :=
  ((((((h.setCell (p := ⟨g, o, none⟩) hg _).setCell (p := ⟨g, o + 1, none⟩) hg _).setCell (p := ⟨g, o + 2, none⟩) hg _).setCell (p := ⟨g, o + 3, none⟩) hg _).setCell (p := ⟨g, o + 4, none⟩) hg _).setCell (p := ⟨g, o + 5, none⟩) hg _).setCell (p := ⟨g, o + 6, none⟩) hg _
theorem Turns.row {S : Nat → Prop} {w w' : World} (h : Turns S w w') {B g cap : Nat} {l : List Ev} (hr : Row w B g cap l) (hg : ¬ S g) : Row w' B g cap l := hr.same (h.block g hr.lt.2 hg)
end Go.Proofs.YtmpoffepoafblaaGreat

/- The specification's l0swap. -/
namespace Go.Proofs.YtmpoffepoafblaaGreat
open Go.RowKit
theorem Row.cells7 {w : World} {B g cap : Nat} {l : List Ev} (h : Row w B g cap l) {i : Nat} (hi : i < l.length) :
    (w.cell? ⟨g, i * 7, none⟩ = some (.int .i64 (evAt l i).t) ∧ w.cell? ⟨g, i * 7 + 1, none⟩ = some (.int .i64 (evAt l i).s) ∧ w.cell? ⟨g, i * 7 + 2, none⟩ = some (.int .i64 (evAt l i).q) ∧ w.cell? ⟨g, i * 7 + 3, none⟩ = some (.int .i64 (evAt l i).d) ∧ w.cell? ⟨g, i * 7 + 4, none⟩ = some (.int .i64 (evAt l i).k) ∧ w.cell? ⟨g, i * 7 + 5, none⟩ = some (.int .i64 (evAt l i).v) ∧ w.cell? ⟨g, i * 7 + 6, none⟩ = some (.int .i64 (evAt l i).g)) ∧
    (w.frozen? ⟨g, i * 7, none⟩ = false ∧ w.frozen? ⟨g, i * 7 + 1, none⟩ = false ∧ w.frozen? ⟨g, i * 7 + 2, none⟩ = false ∧ w.frozen? ⟨g, i * 7 + 3, none⟩ = false ∧ w.frozen? ⟨g, i * 7 + 4, none⟩ = false ∧ w.frozen? ⟨g, i * 7 + 5, none⟩ = false ∧ w.frozen? ⟨g, i * 7 + 6, none⟩ = false) :=
  ⟨⟨(h.ev hi).f0, (h.ev hi).f1, (h.ev hi).f2, (h.ev hi).f3, (h.ev hi).f4, (h.ev hi).f5, (h.ev hi).f6⟩, ⟨h.frozen _, h.frozen _, h.frozen _, h.frozen _, h.frozen _, h.frozen _, h.frozen _⟩⟩
theorem Row.swap {w : World} {B g cap : Nat} {l : List Ev} (h : Row w B g cap l) {i k : Nat} (hi : i < l.length) (hk : k < l.length) : Row (put7 (put7 w g (i * 7) (evAt l k)) g (k * 7) (evAt l i)) B g cap (swp l i k) :=
  (h.put hi (evAt l k)).put (by simpa using hk) (evAt l i)

end Go.Proofs.YtmpoffepoafblaaGreat

