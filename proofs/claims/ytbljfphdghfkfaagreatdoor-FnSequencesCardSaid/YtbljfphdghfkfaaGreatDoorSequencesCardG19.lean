/- MOkM, SOf, CBeg, Rowed, CSt, VQuiet, VSpec, VLow, VNum -/
import Derived.Test.YtbljfphdghfkfaaGreatDoorSequencesCardG18
import Derived.Test.YtbljfphdghfkfaaGreatDoorSequencesCardG10
import Derived.Test.YtbljfphdghfkfaaGreatDoorSequencesCardG16
import Derived.Test.YtbljfphdghfkfaaGreatDoorSequencesCardG00
import Derived.Laws.OwnMore
import Derived.WalkSmall
import Derived.Test.YtbljfphdghfkfaaGreatDoorSequencesCardLVOf
import Derived.Test.YtbljfphdghfkfaaGreatDoorSequencesCardLQuiet
import Derived.Deep.QuietTactic
import Derived.BigQuiet
import Derived.Lib.OthersKept
/- The program's ModelOk. -/
namespace Go.Proofs.YtbljfphdghfkfaaGreatDoor
open Go.RowKit
theorem ok_parts (m : Md) : m.ok = ((decide (1 ≤ m.n) && decide (m.n ≤ 4)) && ((decide (0 ≤ m.s) && decide (m.s ≤ 65535)) && ((decide (0 ≤ m.z) && decide (m.z ≤ 950)) && ((decide ((m.i.length : Int) = m.n) && m.okI) && ((decide (1 ≤ m.h.length ∧ m.h.length ≤ 4) && m.okH) && (decide (m.e.length ≤ 6) && m.okE)))))) := by
 unfold Md.ok
 rw [Bool.eq_iff_iff]
 simp only [Bool.and_eq_true, decide_eq_true_eq]
 unfold Md.hd
 constructor
 ·rintro ⟨⟨⟨⟨h1, h2, h3, h4, h5, h6, h7, h8, h9, h10⟩, hi⟩, hh⟩, he⟩
  exact ⟨⟨h1, h2⟩, ⟨h3, h4⟩, ⟨h9, h10⟩, ⟨h5, hi⟩, ⟨⟨h6, h7⟩, hh⟩, h8, he⟩
 ·rintro ⟨⟨h1, h2⟩, ⟨h3, h4⟩, ⟨h9, h10⟩, ⟨h5, hi⟩, ⟨⟨h6, h7⟩, hh⟩, h8, he⟩
  exact ⟨⟨⟨⟨h1, h2, h3, h4, h5, h6, h7, h8, h9, h10⟩, hi⟩, hh⟩, he⟩
set_option maxRecDepth 100000 in
set_option maxHeartbeats 8000000 in
theorem iModM (x : Value) (m : Md) (w : World) (hs : SmallM m) (h : IsM w x m) :
  Calls Tryz.prog 8 #[x] w fun e w' => e = .returned (.bool m.ok) ∧ Below w.heap.size w w' := by
 have HX : Hid (IsM w x m) := h
 obtain ⟨vi, vh, vs, rfl, ⟨ai, ci, rfl, hi1, hi2, hi3⟩, ⟨ah, ch, rfl, hh1, hh2, hh3⟩, ⟨ae, ce, rfl, he1, he2, he3⟩⟩ := h
 have hi0 : m.i.length ≤ 1048576 := hs.i
 have hh0 : m.h.length ≤ 1048576 := hs.h
 have he0 : m.e.length ≤ 1048576 := hs.e
 have HS : Hid (SmallM m) := hs
 clear hs hi1 hi2 hh1 hh2 he1 he2
 clear hi3 hh3 he3 hi0 hh0 he0
 obtain ⟨W0, hW0⟩ : ∃ W0, w.alloc (.cells #[.int .i64 m.n, .int .i64 m.s, .slice ai m.i.length ci, .slice ah m.h.length ch, .slice ae m.e.length ce, .int .i64 m.z] 27) = W0 := ⟨_, rfl⟩
 have HB0 : Hid (Below w.heap.size w W0) := by rw [← hW0]; exact (Below.refl _ w).alloc (Nat.le_refl _) _
 have HP0 : Hid (Bk W0 w.heap.size 27 #[.int .i64 m.n, .int .i64 m.s, .slice ai m.i.length ci, .slice ah m.h.length ch, .slice ae m.e.length ce, .int .i64 m.z]) := by rw [← hW0]; exact Bk.new w _ _
 have p0 := HP0.out.cell (i := 0) rfl
 have p1 := HP0.out.cell (i := 1) rfl
 have p2 := HP0.out.cell (i := 2) rfl
 have p3 := HP0.out.cell (i := 3) rfl
 have p4 := HP0.out.cell (i := 4) rfl
 have p5 := HP0.out.cell (i := 5) rfl
 have HOK : Hid (m.ok = ((decide (1 ≤ m.n) && decide (m.n ≤ 4)) && ((decide (0 ≤ m.s) && decide (m.s ≤ 65535)) && ((decide (0 ≤ m.z) && decide (m.z ≤ 950)) && ((decide ((m.i.length : Int) = m.n) && m.okI) && ((decide (1 ≤ m.h.length ∧ m.h.length ≤ 4) && m.okH) && (decide (m.e.length ≤ 6) && m.okE))))))) := ok_parts m
 generalize m.ok = okv at HOK ⊢
 go_enter Tryz.func8, Tryz.ntmps8
 go_wp2_with fail
 clear hW0
 refine (within_any _ _ _ _).mono ?_
 rintro e w2 ⟨rfl, hw⟩
 have hw' := hw.symm
 clear hw
 subst hw'
 cases hA0 : (decide (1 ≤ m.n) && decide (m.n ≤ 4))
 case false =>
  have hno : okv = false := by rw [HOK.out, hA0]; simp
  subst hno
  clear hA0
  go_wp2
  go_ret
  exact ⟨rfl, HB0.out⟩
 have HA0 : Hid ((decide (1 ≤ m.n) && decide (m.n ≤ 4)) = true) := hA0
 clear hA0
 go_wp2_with fail
 refine (within_any _ _ _ _).mono ?_
 rintro e w2 ⟨rfl, hw⟩
 have hw' := hw.symm
 clear hw
 subst hw'
 cases hA1 : (decide (0 ≤ m.s) && decide (m.s ≤ 65535))
 case false =>
  have hno : okv = false := by rw [HOK.out, hA1]; simp
  subst hno
  clear hA1
  go_wp2
  go_ret
  exact ⟨rfl, HB0.out⟩
 have HA1 : Hid ((decide (0 ≤ m.s) && decide (m.s ≤ 65535)) = true) := hA1
 clear hA1
 go_wp2_with fail
 refine (within_any _ _ _ _).mono ?_
 rintro e w2 ⟨rfl, hw⟩
 have hw' := hw.symm
 clear hw
 subst hw'
 cases hA2 : (decide (0 ≤ m.z) && decide (m.z ≤ 950))
 case false =>
  have hno : okv = false := by rw [HOK.out, hA2]; simp
  subst hno
  clear hA2
  go_wp2
  go_ret
  exact ⟨rfl, HB0.out⟩
 have HA2 : Hid ((decide (0 ≤ m.z) && decide (m.z ≤ 950)) = true) := hA2
 clear hA2
 go_wp2_with fail
 refine (initOk_any _ m _ HS.out (HX.out.below HB0.out)).mono ?_
 rintro e w3 ⟨rfl, hb⟩
 have HB3 : Hid (Below w.heap.size w w3) := HB0.out.trans (hb.mono HB0.out.size)
 have HP3 : Hid (Bk w3 w.heap.size 27 #[.int .i64 m.n, .int .i64 m.s, .slice ai m.i.length ci, .slice ah m.h.length ch, .slice ae m.e.length ce, .int .i64 m.z]) := HP0.out.below hb
 clear hb HB0 HP0 p0 p1 p2 p3 p4 p5
 have p0 := HP3.out.cell (i := 0) rfl
 have p1 := HP3.out.cell (i := 1) rfl
 have p2 := HP3.out.cell (i := 2) rfl
 have p3 := HP3.out.cell (i := 3) rfl
 have p4 := HP3.out.cell (i := 4) rfl
 have p5 := HP3.out.cell (i := 5) rfl
 cases hA3 : (decide ((m.i.length : Int) = m.n) && m.okI)
 case false =>
  have hno : okv = false := by rw [HOK.out, hA3]; simp
  subst hno
  clear hA3
  go_wp2
  go_ret
  exact ⟨rfl, HB3.out⟩
 have HA3 : Hid ((decide ((m.i.length : Int) = m.n) && m.okI) = true) := hA3
 clear hA3
 go_wp2_with fail
 refine (handlersOk_any _ m _ HS.out (HX.out.below HB3.out)).mono ?_
 rintro e w4 ⟨rfl, hb⟩
 have HB4 : Hid (Below w.heap.size w w4) := HB3.out.trans (hb.mono HB3.out.size)
 have HP4 : Hid (Bk w4 w.heap.size 27 #[.int .i64 m.n, .int .i64 m.s, .slice ai m.i.length ci, .slice ah m.h.length ch, .slice ae m.e.length ce, .int .i64 m.z]) := HP3.out.below hb
 clear hb HB3 HP3 p0 p1 p2 p3 p4 p5
 have p0 := HP4.out.cell (i := 0) rfl
 have p1 := HP4.out.cell (i := 1) rfl
 have p2 := HP4.out.cell (i := 2) rfl
 have p3 := HP4.out.cell (i := 3) rfl
 have p4 := HP4.out.cell (i := 4) rfl
 have p5 := HP4.out.cell (i := 5) rfl
 cases hA4 : (decide (1 ≤ m.h.length ∧ m.h.length ≤ 4) && m.okH)
 case false =>
  have hno : okv = false := by rw [HOK.out, hA4]; simp
  subst hno
  clear hA4
  go_wp2
  go_ret
  exact ⟨rfl, HB4.out⟩
 have HA4 : Hid ((decide (1 ≤ m.h.length ∧ m.h.length ≤ 4) && m.okH) = true) := hA4
 clear hA4
 go_wp2_with fail
 refine (startOk_any _ m _ HS.out (HX.out.below HB4.out)).mono ?_
 rintro e w5 ⟨rfl, hb⟩
 have HB5 : Hid (Below w.heap.size w w5) := HB4.out.trans (hb.mono HB4.out.size)
 have HP5 : Hid (Bk w5 w.heap.size 27 #[.int .i64 m.n, .int .i64 m.s, .slice ai m.i.length ci, .slice ah m.h.length ch, .slice ae m.e.length ce, .int .i64 m.z]) := HP4.out.below hb
 clear hb HB4 HP4 p0 p1 p2 p3 p4 p5
 have hy : okv = (decide (m.e.length ≤ 6) && m.okE) := by rw [HOK.out, HA0.out, HA1.out, HA2.out, HA3.out, HA4.out]; simp
 subst hy
 clear HOK
 go_wp2
 go_ret
 exact ⟨rfl, HB5.out⟩
end Go.Proofs.YtbljfphdghfkfaaGreatDoor

/- Both StateOf. -/
namespace Go.Proofs.YtbljfphdghfkfaaGreatDoor
open Go.RowKit
def firstS (m : Md) (lp : Int) : St := ⟨[intAt m.i lp.toNat, 0], 0, 0⟩
theorem ok_init {m : Md} (h : m.ok = true) : (m.i.length : Int) = m.n := by
 simp only [Md.ok, Bool.and_eq_true, decide_eq_true_eq] at h
 exact h.1.1.1.2.2.2.2.1
theorem Bk.rowF {w : World} {P : Nat} {l : List Int} (hl : l.length ≤ maxLen) (h : Bk w P 3 (intCells l).toArray) : RowF (fun k => k = P) w (sl P l.length) l.length 1 (intCells l) := by
 refine ⟨by simp [intCells], _, _, rfl, Nat.le_refl _, hl, .inr ⟨P, rfl, rfl, h.lt, fun j hj => ⟨?_, h.free j⟩⟩⟩
 have hj' : j < (intCells l).length := by simp [intCells]; omega
 rw [h.cell (i := j) (v := (intCells l)[j]) (by simp [hj'])]
 simp [hj']
theorem made2 {w1 : World} {B C : Nat} (h : w1.ownsRow C 3 1 (.slice (some ⟨B, 0, none⟩) 2 2) 2 (madeCells (Value.int .i64 0).cells (2 * 1)).toList) : Bk w1 B 3 #[.int .i64 0, .int .i64 0] := by
 obtain ⟨hl, h | ⟨g, cap, cur, e, hg, hc, h1, h2, h3, h4⟩⟩ := h
 ·simp at h
 ·simp at e
  obtain ⟨rfl, rfl⟩ := e
  have h5 : cur.toList = (madeCells (Value.int .i64 0).cells (2 * 1)).toList := by
   rw [← h4, List.take_of_length_le (by simp; omega)]
  have h6 : (madeCells (Value.int .i64 0).cells (2 * 1)).toList = [.int .i64 0, .int .i64 0] := by kernel_rfl
  rw [h6] at h5
  unfold Bk
  rw [hc, show cur = #[.int .i64 0, .int .i64 0] from Array.toList_inj.1 h5]
set_option maxRecDepth 100000 in
set_option maxHeartbeats 4000000 in
theorem iBegin (x : Value) (m : Md) (lp : Nat) (w : World) (hlp : lp < m.i.length) (h : IsM w x m) :
  Calls Tryz.prog 83 #[x, .int .i64 lp] w fun e w' => ∃ y, e = .returned y ∧ Below w.heap.size w w' ∧ StF (fun k => w.heap.size ≤ k ∧ k < w'.heap.size) w' y ⟨[intAt m.i lp, 0], 0, 0⟩ := by
 obtain ⟨i0, hi, hz0, hz1, hz2⟩ := info_parts info3
 obtain ⟨vi, vh, vs, rfl, ⟨ai, ci, rfl, hi1, hi2, hi3⟩, ⟨ah, ch, rfl, _⟩, ⟨ae, ce, rfl, _⟩⟩ := h
 obtain ⟨b, off, rfl, hb, hc⟩ := hi3.resolve_left (by intro e; rw [e] at hlp; simp at hlp)
 have f0 := hc lp hlp
 clear hc hi3
 generalize intAt m.i lp = y at f0 ⊢
 obtain ⟨W0, hW0⟩ : ∃ W0, (w.alloc (.cells #[.int .i64 m.n, .int .i64 m.s, .slice (some ⟨b, off, none⟩) m.i.length ci, .slice ah m.h.length ch, .slice ae m.e.length ce, .int .i64 m.z] 27)).alloc (.cells #[.slice none 0 0, .int .i64 0, .int .i64 0] 96) = W0 := ⟨_, rfl⟩
 have HP0 : Hid (Bk W0 w.heap.size 27 #[.int .i64 m.n, .int .i64 m.s, .slice (some ⟨b, off, none⟩) m.i.length ci, .slice ah m.h.length ch, .slice ae m.e.length ce, .int .i64 m.z]) := by rw [← hW0]; exact (Bk.new _ _ _).alloc _
 have HR0 : Hid (Bk W0 (w.heap.size + 1) 96 #[.slice none 0 0, .int .i64 0, .int .i64 0]) := by rw [← hW0]; exact Bk.newAt (by simp) _ _
 have HB0 : Hid (Below w.heap.size w W0) := by rw [← hW0]; exact ((Below.refl _ w).alloc (Nat.le_refl _) _).alloc (by simp) _
 have hsz : W0.heap.size = w.heap.size + 1 + 1 := by rw [← hW0]; simp
 have HSZ : Hid (W0.heap.size = w.heap.size + 1 + 1) := hsz
 clear hsz
 go_enter Tryz.func83, Tryz.ntmps83
 go_wp2_with (at_make; refine wpList_make_full W0 rfl _ _ 23 rfl W0.heap.size 3 i0 _ 1 Tryz.underlying23 hi hz0 hz1 .i64 .i64 2 2 2 rfl rfl rfl rfl (by rw [hz2]; omega) (by unfold maxLen; omega) (Nat.le_refl _) ?_; intro w1 hown hgrow; have hN1 : Bk w1 W0.heap.size 3 #[.int .i64 0, .int .i64 0] := made2 hown; have hB1 : Below W0.heap.size W0 w1 := (Below.refl _ _).grown hgrow (Nat.le_refl _) (fun k e => by cases e); have hR1 := HR0.out.below hB1; have hP1 := HP0.out.below hB1; have p2 := hP1.cell (i := 2) rfl; have n0 := hN1.cell (i := 0) rfl; have nf := hN1.free; have f1 := (hB1.cell (p := ⟨b, off + lp, none⟩) (by have := HB0.out.size; show b < W0.heap.size; omega)).trans ((HB0.out.cell (p := ⟨b, off + lp, none⟩) hb).trans f0); obtain ⟨X1, hX1⟩ : ∃ X1, w1.setCell ⟨W0.heap.size, 0, none⟩ (.int .i64 y) = X1 := ⟨_, rfl⟩; have hR2 : Bk X1 (w.heap.size + 1) 96 #[.slice none 0 0, .int .i64 0, .int .i64 0] := hX1 ▸ hR1.other 0 _ (by have := HSZ.out; omega); have hN2 : Bk X1 W0.heap.size 3 #[.int .i64 y, .int .i64 0] := hX1 ▸ hN1.put 0 _; have hB2 : Below w.heap.size w X1 := (HB0.out.trans (hB1.mono HB0.out.size)).trans (by rw [← hX1]; exact (Below.refl _ _).setCell (p := ⟨W0.heap.size, 0, none⟩) HB0.out.size _); have r0 := hR2.cell (i := 0) rfl; have r1 := hR2.cell (i := 1) rfl; have r2 := hR2.cell (i := 2) rfl; have rf := hR2.free; have HR2 : Hid (Bk X1 (w.heap.size + 1) 96 #[.slice none 0 0, .int .i64 0, .int .i64 0]) := hR2; have HN2 : Hid (Bk X1 W0.heap.size 3 #[.int .i64 y, .int .i64 0]) := hN2; have HB2 : Hid (Below w.heap.size w X1) := hB2; clear hR1 hP1 hN1 hB1 hR2 hN2 hB2 hown hgrow)
 clear r0 r1 r2 rf p2 n0 nf f1 f0
 obtain ⟨X5, hX5⟩ : ∃ X5, put3 X1 (w.heap.size + 1) (sl W0.heap.size 2) (.int .i64 0) (.int .i64 0) = X5 := ⟨_, rfl⟩
 have hR := HR2.out.put3 (sl W0.heap.size 2) (.int .i64 0) (.int .i64 0)
 have ht := put3_turns X1 (w.heap.size + 1) (sl W0.heap.size 2) (.int .i64 0) (.int .i64 0)
 rw [hX5] at hR ht
 unfold put3 at hX5
 rw [hX5]
 have t0 := hR.cell (i := 0) rfl
 have t1 := hR.cell (i := 1) rfl
 have t2 := hR.cell (i := 2) rfl
 have hs1 := HB0.out.size
 have hs2 := HB2.out.size
 have hs3 := HSZ.out
 have hs4 := ht.size
 have hs5 := HN2.out.lt
 refine bodyPost_ret (v := .agg #[sl W0.heap.size 2, .int .i64 0, .int .i64 0]) (by simp [results, Tryz.results83, go_sem, t0, t1, t2]) rfl ⟨_, rfl, HB2.out.trans (ht.to_below (fun k e => by omega) (by omega)), _, rfl, ?_⟩
 exact ((Bk.rowF (l := [y, 0]) (by unfold maxLen; simp) HN2.out).turns ht (fun k e => by omega)).mono (fun k e => by omega)
end Go.Proofs.YtbljfphdghfkfaaGreatDoor

/- How a course begins. -/
namespace Go.Proofs.YtbljfphdghfkfaaGreatDoor
open Go.RowKit
def bares (l : List Ev) : List Ev := l.map Ev.bare
theorem bares_length (l : List Ev) : (bares l).length = l.length := by simp [bares]
theorem bares_at (l : List Ev) (i : Nat) (h : i < l.length) : evAt (bares l) i = (evAt l i).bare := by
 simp [evAt, bares, h]
theorem bares_same {l : List Ev} (h : ∀ i, i < l.length → (evAt l i).g = 0) : bares l = l := by
 refine ext_ev (bares_length l) fun j hj => ?_
 rw [bares_length] at hj
 rw [bares_at _ _ hj]
 have := h j hj
 generalize evAt l j = e at this ⊢
 cases e
 simp only [Ev.bare, Ev.mk.injEq, true_and]
 exact this.symm
def firsts (m : Md) (n : Nat) : List St := (List.range n).map fun j : Nat => firstS m (j : Int)
theorem firsts_length (m : Md) (n : Nat) : (firsts m n).length = n := by simp [firsts]
theorem firsts_at (m : Md) (n j : Nat) (h : j < n) : stAt (firsts m n) j = firstS m (j : Int) := by simp [firsts, stAt, h]
theorem firsts_snoc (m : Md) (n : Nat) : firsts m (n + 1) = firsts m n ++ [firstS m (n : Int)] := by simp [firsts, List.range_succ]
def startO : List Ev → List Ev → List Ev
 | t, [] => t
 | t, e :: l => startO (insO t e.bare) l
theorem startO_plan (z : Int) : ∀ (l t : List Ev), (∀ i, i < l.length → (evAt l i).t ≤ z) → startO t l = planO z t (bares l)
 | [], t, _ => rfl
 | e :: l, t, h => by
  have h0 := h 0 (by simp)
  rw [evAt_head] at h0
  have hr : ∀ i, i < l.length → (evAt l i).t ≤ z := fun i hi => by
   have := h (i + 1) (by simpa using hi)
   rwa [evAt_cons] at this
  show startO (insO t e.bare) l = planO z (if e.bare.t ≤ z then insO t e.bare else t) (bares l)
  rw [if_pos (show e.bare.t ≤ z from h0)]
  exact startO_plan z l _ hr
theorem startO_length : ∀ (l t : List Ev), (startO t l).length = t.length + l.length
 | [], t => by simp [startO]
 | e :: l, t => by
  have := startO_length l (insO t e.bare)
  rw [insO_length] at this
  simp only [startO, List.length_cons]
  omega
def begC (m : Md) : Co := ⟨startO [] m.e, firsts m m.n.toNat, [], []⟩
def begH (m : Md) : Co := ⟨planH m.z [] (bares m.e), firsts m m.n.toNat, [], []⟩
theorem ok_start {m : Md} (h : m.ok = true) {j : Nat} (hj : j < m.e.length) : (evAt m.e j).ok = true ∧ (evAt m.e j).s = -1 ∧ (evAt m.e j).q = (j : Int) ∧ (evAt m.e j).d < m.n ∧ (evAt m.e j).k < (m.h.length : Int) ∧ (evAt m.e j).t ≤ m.z := by
 simp only [Md.ok, Bool.and_eq_true, Md.okE, List.all_eq_true] at h
 have h1 := h.2 j (by simpa using hj)
 simp only [stB, Bool.and_eq_true, decide_eq_true_eq] at h1
 exact ⟨h1.1, h1.2.1, h1.2.2.1, h1.2.2.2.2.1, h1.2.2.2.2.2.1, h1.2.2.2.2.2.2⟩
theorem ok_inits {m : Md} (h : m.ok = true) {j : Nat} (hj : j < m.i.length) : 0 ≤ intAt m.i j ∧ intAt m.i j ≤ 999 := by
 simp only [Md.ok, Bool.and_eq_true, Md.okI, List.all_eq_true] at h
 have h1 := h.1.1.2 j (by simpa using hj)
 simpa [inB] using h1
theorem ok_len6 {m : Md} (h : m.ok = true) : m.e.length ≤ 6 := by
 simp only [Md.ok, Bool.and_eq_true] at h
 have hd : m.hd := of_decide_eq_true h.1.1.1
 exact hd.2.2.2.2.2.2.2.1
theorem bare_ok {e : Ev} (h : e.ok = true) : e.bare.ok = true := by
 simp only [Ev.ok, okB, decide_eq_true_eq] at h
 obtain ⟨h1, h2, h3, h4, h5, h6, h7, h8, h9, h10, h11, h12, _⟩ := h
 show okB e.t e.s e.q e.d e.k e.v 0 = true
 unfold okB
 exact decide_eq_true ⟨h1, h2, h3, h4, h5, h6, h7, h8, h9, h10, h11, h12, by omega, by omega⟩
theorem beg_alike {m : Md} (h : m.ok = true) : Alike (begH m).td (begC m).td := by
 show Alike (planH m.z [] (bares m.e)) (startO [] m.e)
 rw [startO_plan m.z m.e [] fun i hi => (ok_start h hi).2.2.2.2.2]
 refine plan_alike (d := -1) _ 0 _ _ alike_nil (fun x hx => ?_) fun i hi => ?_
 ·obtain ⟨j, hj, _⟩ := hx
  simp at hj
 ·rw [bares_length] at hi
  rw [bares_at _ _ hi]
  have := ok_start h hi
  exact ⟨this.2.1, by show (evAt m.e i).q = _; rw [this.2.2.1]; omega⟩
theorem beg_inv {m : Md} (h : m.ok = true) : Inv m (begC m) := by
 obtain ⟨_, _, hn0, hn1, _, _, _⟩ := ok_seed h
 have hi := ok_init h
 refine ⟨?_, fun j hj => ?_, fun x hx => ?_, ?_, Nat.le_refl _, Nat.zero_le _⟩
 ·show ((firsts m m.n.toNat).length : Int) = m.n
  rw [firsts_length]; omega
 ·have hj' : j < m.n.toNat := by have := firsts_length m m.n.toNat; have hjj : j < (firsts m m.n.toNat).length := hj; omega
  show (stAt (firsts m m.n.toNat) j).ok = true ∧ (stAt (firsts m m.n.toNat) j).q ≤ 8 * (0 : Int) ∧ (stAt (firsts m m.n.toNat) j).d ≤ 8 * (0 : Int)
  rw [firsts_at _ _ _ hj']
  have := ok_inits h (j := j) (by omega)
  refine ⟨?_, by simp [firstS], by simp [firstS]⟩
  have e0 : intAt (firstS m (j : Int)).r 0 = intAt m.i j := by simp [firstS, intAt]
  have e1 : intAt (firstS m (j : Int)).r 1 = 0 := by simp [firstS, intAt]
  simp only [St.ok, decide_eq_true_eq, e0, e1]
  exact ⟨rfl, this, ⟨by omega, by omega⟩, by simp [firstS], by simp [firstS], by simp [firstS], by simp [firstS]⟩
 ·have hx' : InL x (startO [] m.e) := hx
  rw [startO_plan m.z m.e [] fun i hi => (ok_start h hi).2.2.2.2.2] at hx'
  rcases inL_planO hx' with ⟨j, hj, _⟩ | ⟨⟨j, hj, hje⟩, hz⟩
  ·simp at hj
  ·rw [bares_length] at hj
   rw [bares_at _ _ hj] at hje
   have ho := ok_start h hj
   subst hje
   exact ⟨bare_ok ho.1, rfl, ho.2.2.2.1, ho.2.2.2.2.1, hz, .inl ho.2.1⟩
 ·show (startO [] m.e).length ≤ 6 + 8 * 0
  rw [startO_length]
  have := ok_len6 h
  simp
  omega
def seqR (m : Md) (v : List Int) (z : Int) : Hi := seqG (·.drop 1) (planO m.z) m v z 151 (begC m)
end Go.Proofs.YtbljfphdghfkfaaGreatDoor

/- A row of events of one's own, whose places are written; what turns beside it. -/
namespace Go.Proofs.YtbljfphdghfkfaaGreatDoor
open Go.RowKit
def Row (w : World) (B g cap : Nat) (l : List Ev) : Prop := w.ownsRow B 53 7 (.slice (some ⟨g, 0, none⟩) l.length cap) l.length (cellsL l)
theorem cellsL_set : ∀ (l : List Ev) (i : Nat) (e : Ev), i < l.length →
  (((((((cellsL l).set (i * 7) (.int .i64 e.t)).set (i * 7 + 1) (.int .i64 e.s)).set (i * 7 + 2) (.int .i64 e.q)).set (i * 7 + 3) (.int .i64 e.d)).set (i * 7 + 4) (.int .i64 e.k)).set (i * 7 + 5) (.int .i64 e.v)).set (i * 7 + 6) (.int .i64 e.g) = cellsL (l.set i e)
 | [], _, _, h => by simp at h
 | a :: l, 0, e, _ => by simp [cellsL, Ev.cs]
 | a :: l, i + 1, e, h => by
  have ih := cellsL_set l i e (by simpa using h)
  have hk0 : (i + 1) * 7 = i * 7 + 1 + 1 + 1 + 1 + 1 + 1 + 1 := by omega
  simp only [cellsL, Ev.cs, List.cons_append, List.nil_append, List.set_cons_succ, hk0, ih]
theorem Row.put {w : World} {B g cap : Nat} {l : List Ev} (h : Row w B g cap l) {i : Nat} (hi : i < l.length) (e : Ev) : Row (put7 w g (i * 7) e) B g cap (l.set i e) := by
 have h0 := (World.ownsRow.stored h (i * 7) (.int .i64 e.t)).1
 have h1 := (World.ownsRow.stored h0 (i * 7 + 1) (.int .i64 e.s)).1
 have h2 := (World.ownsRow.stored h1 (i * 7 + 2) (.int .i64 e.q)).1
 have h3 := (World.ownsRow.stored h2 (i * 7 + 3) (.int .i64 e.d)).1
 have h4 := (World.ownsRow.stored h3 (i * 7 + 4) (.int .i64 e.k)).1
 have h5 := (World.ownsRow.stored h4 (i * 7 + 5) (.int .i64 e.v)).1
 have h6 := (World.ownsRow.stored h5 (i * 7 + 6) (.int .i64 e.g)).1
 unfold Row
 rw [List.length_set, ← cellsL_set l i e hi]
 exact h6
theorem Row.lt {w : World} {B g cap : Nat} {l : List Ev} (h : Row w B g cap l) : B ≤ g ∧ g < w.heap.size := World.ownsRow.lt h g rfl
theorem Row.caps {w : World} {B g cap : Nat} {l : List Ev} (h : Row w B g cap l) : l.length ≤ cap ∧ cap ≤ maxLen := by
 obtain ⟨_, ⟨h, _⟩ | ⟨g', cap', cur, e, _, _, h1, h2, _⟩⟩ := h
 ·cases h
 ·cases e; exact ⟨h1, h2⟩
theorem Row.ev {w : World} {B g cap : Nat} {l : List Ev} (h : Row w B g cap l) {i : Nat} (hi : i < l.length) : Ev.In w g (i * 7) (evAt l i) := by
 have hget : ∀ r, r < 7 → w.cell? ⟨g, i * 7 + r, none⟩ = (evAt l i).cs[r]? := fun r hr => by
  rw [World.ownsRow.cellAt h (i * 7 + r) (by omega), cellsL_get l i r hi hr]
 exact ⟨hget 0 (by omega), hget 1 (by omega), hget 2 (by omega), hget 3 (by omega), hget 4 (by omega), hget 5 (by omega), hget 6 (by omega)⟩
theorem Row.frozen {w : World} {B g cap : Nat} {l : List Ev} (h : Row w B g cap l) (j : Nat) : w.frozen? ⟨g, j, none⟩ = false := World.ownsRow.frozenAt h j
theorem Row.same {w w' : World} {B g cap : Nat} {l : List Ev} (h : Row w B g cap l) (hb : w'.heap[g]? = w.heap[g]?) : Row w' B g cap l := by
 obtain ⟨h0, ⟨h, _⟩ | ⟨g', cap', cur, e, hg, hc, h1, h2, h3, h4⟩⟩ := h
 ·cases h
 ·cases e; exact ⟨h0, .inr ⟨g, cap, cur, rfl, hg, hb.trans hc, h1, h2, h3, h4⟩⟩
theorem Row.below {w w' : World} {B B' g cap : Nat} {l : List Ev} (h : Row w B g cap l) (hb : Below B' w w') (hB : g < B') : Row w' B g cap l := h.same (hb.block g hB)
theorem Row.drew {w : World} {B g cap : Nat} {l : List Ev} (h : Row w B g cap l) : Row w.drew B g cap l := World.ownsRow.drew h
theorem Row.pop {w : World} {B g cap : Nat} {l : List Ev} {e : Ev} (h : Row w B g cap (l ++ [e])) : Row w B g cap l := by
 unfold Row at h
 rw [List.length_append, List.length_singleton, cellsL_append] at h
 exact ownsRow_pop (cellsL_length l) h
theorem Turns.put {S : Nat → Prop} {a w : World} (h : Turns S a w) {g : Nat} (hg : S g) (o : Nat) (e : Ev) : Turns S a (put7 w g o e) :=
 ((((((h.setCell (p := ⟨g, o, none⟩) hg _).setCell (p := ⟨g, o + 1, none⟩) hg _).setCell (p := ⟨g, o + 2, none⟩) hg _).setCell (p := ⟨g, o + 3, none⟩) hg _).setCell (p := ⟨g, o + 4, none⟩) hg _).setCell (p := ⟨g, o + 5, none⟩) hg _).setCell (p := ⟨g, o + 6, none⟩) hg _
end Go.Proofs.YtbljfphdghfkfaaGreatDoor

/- A row of states: each one's registers lie in a block of A. -/
namespace Go.Proofs.YtbljfphdghfkfaaGreatDoor
open Go.RowKit
abbrev Pt : Type := Value × St
def cellsT : List Pt → List Value
 | [] => []
 | p :: l => p.1 :: .int .i64 p.2.q :: .int .i64 p.2.d :: cellsT l
def tAt (l : List Pt) (i : Nat) : Pt := l.getD i (.slice none 0 0, ⟨[], 0, 0⟩)
def Pt.cs (p : Pt) : List Value := [p.1, .int .i64 p.2.q, .int .i64 p.2.d]
def stsOf (l : List Pt) : List St := l.map Prod.snd
theorem cellsT_length : ∀ l : List Pt, (cellsT l).length = l.length * 3
 | [] => rfl
 | p :: l => by simp [cellsT, cellsT_length l]; omega
theorem cellsT_append : ∀ l l' : List Pt, cellsT (l ++ l') = cellsT l ++ cellsT l'
 | [], _ => rfl
 | p :: l, l' => by simp [cellsT, cellsT_append l l']
theorem tAt_cons (p : Pt) (l : List Pt) (i : Nat) : tAt (p :: l) (i + 1) = tAt l i := by simp [tAt]
theorem tAt_set (l : List Pt) (i j : Nat) (p : Pt) (h : i < l.length) : tAt (l.set i p) j = if i = j then p else tAt l j := by
 unfold tAt
 rw [List.getD_eq_getElem?_getD, List.getD_eq_getElem?_getD, List.getElem?_set]
 by_cases e : i = j
 ·subst e; simp [h]
 ·simp [e]
theorem tAt_left (l m : List Pt) (i : Nat) (h : i < l.length) : tAt (l ++ m) i = tAt l i := by simp [tAt, List.getElem?_append_left h]
theorem tAt_last (l : List Pt) (p : Pt) : tAt (l ++ [p]) l.length = p := by simp [tAt]
theorem tAt_st (l : List Pt) (i : Nat) : stAt (stsOf l) i = (tAt l i).2 := by
 unfold stAt tAt stsOf
 rw [List.getD_eq_getElem?_getD, List.getD_eq_getElem?_getD, List.getElem?_map]
 cases l[i]? <;> rfl
theorem stsOf_set (l : List Pt) (i : Nat) (p : Pt) : stsOf (l.set i p) = (stsOf l).set i p.2 := by simp [stsOf, List.map_set]
theorem stsOf_length (l : List Pt) : (stsOf l).length = l.length := by simp [stsOf]
theorem stsOf_append (l m : List Pt) : stsOf (l ++ m) = stsOf l ++ stsOf m := by simp [stsOf]
theorem cellsT_get : ∀ (l : List Pt) (i r : Nat), i < l.length → r < 3 → (cellsT l)[i * 3 + r]? = (tAt l i).cs[r]?
 | [], _, _, h, _ => by simp at h
 | p :: l, 0, r, _, hr => by
  have : r = 0 ∨ r = 1 ∨ r = 2 := by omega
  rcases this with rfl | rfl | rfl <;> simp [cellsT, tAt, Pt.cs]
 | p :: l, i + 1, r, h, hr => by
  have h1 := cellsT_get l i r (by simpa using h) hr
  have e : (i + 1) * 3 + r = (i * 3 + r) + 1 + 1 + 1 := by omega
  rw [tAt_cons, ← h1, e]
  simp [cellsT]
theorem cellsT_set : ∀ (l : List Pt) (i : Nat) (p : Pt), i < l.length → (((cellsT l).set (i * 3) p.1).set (i * 3 + 1) (.int .i64 p.2.q)).set (i * 3 + 2) (.int .i64 p.2.d) = cellsT (l.set i p)
 | [], _, _, h => by simp at h
 | a :: l, 0, p, _ => by simp [cellsT]
 | a :: l, i + 1, p, h => by
  have ih := cellsT_set l i p (by simpa using h)
  have hk0 : (i + 1) * 3 = i * 3 + 1 + 1 + 1 := by omega
  simp only [cellsT, List.set_cons_succ, hk0, ih]
structure Sts (A : Nat → Prop) (w : World) (B : Nat) (v : Value) (l : List Pt) : Prop where
 row : w.ownsRow B 96 3 v l.length (cellsT l)
 reg : ∀ j, j < l.length → RowF A w (tAt l j).1 (tAt l j).2.r.length 1 (intCells (tAt l j).2.r)
section
variable {A A' : Nat → Prop} {w w' : World} {B : Nat} {v : Value} {l : List Pt}
theorem Sts.nil (A : Nat → Prop) (w : World) (B : Nat) : Sts A w B (.slice none 0 0) [] := ⟨World.ownsRow_nil w B _ 3, fun j h => by simp at h⟩
theorem Sts.mono (h : Sts A w B v l) (hA : ∀ k, A k → A' k) : Sts A' w B v l := ⟨h.row, fun j hj => (h.reg j hj).mono hA⟩
theorem Sts.is (h : Sts A w B v l) {j : Nat} (hj : j < l.length) : IsS w (.agg #[(tAt l j).1, .int .i64 (tAt l j).2.q, .int .i64 (tAt l j).2.d]) (tAt l j).2 := ⟨_, rfl, (h.reg j hj).isI⟩
theorem owns_same {T : TypeId} {c n : Nat} {cs : List Value} (h : w.ownsRow B T c v n cs) (hb : ∀ k, v.ownBlock = some k → w'.heap[k]? = w.heap[k]?) : w'.ownsRow B T c v n cs := by
 obtain ⟨h0, ⟨e, h1⟩ | ⟨g, cap, cur, rfl, hg, hc, h1⟩⟩ := h
 ·exact ⟨h0, .inl ⟨e, h1⟩⟩
 ·exact ⟨h0, .inr ⟨g, cap, cur, rfl, hg, (hb g rfl).trans hc, h1⟩⟩
theorem owns_turns {S : Nat → Prop} {T : TypeId} {c n : Nat} {cs : List Value} (h : w.ownsRow B T c v n cs) (ht : Turns S w w') (hS : ∀ k, v.ownBlock = some k → ¬ S k) : w'.ownsRow B T c v n cs :=
 owns_same h fun k hk => ht.block k (World.ownsRow.lt h k hk).2 (hS k hk)
theorem Sts.turns {S : Nat → Prop} (h : Sts A w B v l) (ht : Turns S w w') (hS : ∀ k, A k → ¬ S k) (hv : ∀ k, v.ownBlock = some k → ¬ S k) : Sts A w' B v l :=
 ⟨owns_turns h.row ht hv, fun j hj => (h.reg j hj).turns ht hS⟩
theorem Sts.below (h : Sts A w B v l) (hb : Below w.heap.size w w') : Sts A w' B v l := h.turns (S := fun _ => False) (Turns.of_below hb) (fun _ _ => id) (fun _ _ => id)
theorem Sts.one (h : Sts A w B v l) : ∀ u ∈ cellsT l, u.oneCell' = true := by
 have hreg := h.reg
 clear h
 induction l with
 | nil => intro u hu; cases hu
 | cons p l ih =>
  intro u hu
  obtain ⟨_, a, c, e, _⟩ := hreg 0 (by simp)
  have e' : p.1 = .slice a p.2.r.length c := e
  simp only [cellsT, List.mem_cons] at hu
  rcases hu with rfl | rfl | rfl | hu
  ·rw [e']; rfl
  ·rfl
  ·rfl
  ·exact ih (fun j hj => by
    have := hreg (j + 1) (by simpa using hj)
    rwa [tAt_cons] at this) u hu
abbrev put3o (w : World) (P o : Nat) (v0 v1 v2 : Value) : World := ((w.setCell ⟨P, o, none⟩ v0).setCell ⟨P, o + 1, none⟩ v1).setCell ⟨P, o + 2, none⟩ v2
theorem put3o_turns (w : World) (P o : Nat) (v0 v1 v2 : Value) : Turns (fun b => b = P) w (put3o w P o v0 v1 v2) :=
 ((put1_turns w P o v0).trans (put1_turns _ P (o + 1) v1)).trans (put1_turns _ P (o + 2) v2)
theorem Sts.put {g cap : Nat} (h : Sts A w B (.slice (some ⟨g, 0, none⟩) l.length cap) l) {i : Nat} (hi : i < l.length) (p : Pt) (hp : RowF A w p.1 p.2.r.length 1 (intCells p.2.r)) (hg : ¬ A g) :
  Sts A (put3o w g (i * 3) p.1 (.int .i64 p.2.q) (.int .i64 p.2.d)) B (.slice (some ⟨g, 0, none⟩) l.length cap) (l.set i p) := by
 have hS : ∀ k, A k → ¬ k = g := fun k hk e => hg (e ▸ hk)
 refine ⟨?_, fun j hj => ?_⟩
 ·have h0 := (World.ownsRow.stored h.row (i * 3) p.1).1
  have h1 := (World.ownsRow.stored h0 (i * 3 + 1) (.int .i64 p.2.q)).1
  have h2 := (World.ownsRow.stored h1 (i * 3 + 2) (.int .i64 p.2.d)).1
  rw [List.length_set, ← cellsT_set l i p hi]
  exact h2
 ·rw [List.length_set] at hj
  rw [tAt_set _ _ _ _ hi]
  split
  ·exact hp.turns (put3o_turns _ _ _ _ _ _) hS
  ·exact (h.reg j hj).turns (put3o_turns _ _ _ _ _ _) hS
theorem Sts.snoc {B' : Nat} {v' : Value} {p : Pt} (hr : w'.ownsRow B' 96 3 v' (l.length + 1) (cellsT l ++ p.cs)) (h : ∀ j, j < l.length → RowF A w' (tAt l j).1 (tAt l j).2.r.length 1 (intCells (tAt l j).2.r)) (hp : RowF A w' p.1 p.2.r.length 1 (intCells p.2.r)) :
  Sts A w' B' v' (l ++ [p]) := by
 refine ⟨?_, fun j hj => ?_⟩
 ·rw [cellsT_append, List.length_append]
  exact hr
 ·by_cases hj' : j < l.length
  ·rw [tAt_left _ _ _ hj']; exact h j hj'
  ·have e : j = l.length := by simp at hj; omega
   rw [e, tAt_last]; exact hp
theorem Sts.cells {g cap : Nat} (h : Sts A w B (.slice (some ⟨g, 0, none⟩) l.length cap) l) {i : Nat} (hi : i < l.length) :
  w.cell? ⟨g, i * 3, none⟩ = some (tAt l i).1 ∧ w.cell? ⟨g, i * 3 + 1, none⟩ = some (.int .i64 (tAt l i).2.q) ∧ w.cell? ⟨g, i * 3 + 2, none⟩ = some (.int .i64 (tAt l i).2.d) := by
 have hget : ∀ r, r < 3 → w.cell? ⟨g, i * 3 + r, none⟩ = (tAt l i).cs[r]? := fun r hr => by
  rw [World.ownsRow.cellAt h.row (i * 3 + r) (by omega), cellsT_get l i r hi hr]
 exact ⟨hget 0 (by omega), hget 1 (by omega), hget 2 (by omega)⟩
theorem Sts.frozen {g cap : Nat} (h : Sts A w B (.slice (some ⟨g, 0, none⟩) l.length cap) l) (j : Nat) : w.frozen? ⟨g, j, none⟩ = false := World.ownsRow.frozenAt h.row j
theorem Sts.form {n : Nat} (h : Sts A w B v l) (hn : l.length = n + 1) : ∃ g cap, v = .slice (some ⟨g, 0, none⟩) l.length cap ∧ l.length ≤ cap ∧ cap ≤ maxLen ∧ B ≤ g ∧ g < w.heap.size := by
 have hr := h.row
 obtain ⟨h0, ⟨e, h1⟩ | ⟨g, cap, cur, e, hg, hc, h1, h2, _⟩⟩ := hr
 ·rw [hn] at h1; exact absurd h1 (by omega)
 ·subst e
  exact ⟨g, cap, rfl, h1, h2, hg, (World.ownsRow.lt h.row g rfl).2⟩
end
end Go.Proofs.YtbljfphdghfkfaaGreatDoor

/- A region that draws its order, whose operations only read and whose callees lay blocks of their own, is walked once, in the order of the text. -/
namespace Go.Proofs.YtbljfphdghfkfaaGreatDoor
open Go.RowKit
instance (W : World) : Nonempty (Beyond W) := ⟨⟨W, Below.refl _ _⟩⟩
end Go.Proofs.YtbljfphdghfkfaaGreatDoor

/- Vectors: the specification's Meets and Refines. -/
namespace Go.Proofs.YtbljfphdghfkfaaGreatDoor
open Go.RowKit
theorem vok_at {l : List Int} (h : vok l = true) (j : Nat) (hj : j < 4) : -1 ≤ intAt l j ∧ intAt l j ≤ 1 := by
 obtain ⟨a, b, c, d, rfl, h0, h1, h2, h3⟩ := vok_four h
 have hj4 : j = 0 ∨ j = 1 ∨ j = 2 ∨ j = 3 := by omega
 rcases hj4 with rfl | rfl | rfl | rfl
 ·exact h0
 ·exact h1
 ·exact h2
 ·exact h3
theorem vok_len4 {l : List Int} (h : vok l = true) : l.length = 4 := by
 simp only [vok, Bool.and_eq_true, decide_eq_true_eq] at h; exact h.2
theorem IsI.four {w : World} {x : Value} {l : List Int} (h : IsI w x l) (hl : l.length = 4) : ∃ b off cap, x = .slice (some ⟨b, off, none⟩) 4 cap ∧ IntsAt w b off l := by
 obtain ⟨a, cap, rfl, _, _, h⟩ := h
 obtain ⟨b, off, rfl, h'⟩ := h.resolve_left (by rintro rfl; simp at hl)
 exact ⟨b, off, cap, by rw [hl], h'⟩
end Go.Proofs.YtbljfphdghfkfaaGreatDoor

/- Rows of numbers: what stays where another row turns. -/
namespace Go.Proofs.YtbljfphdghfkfaaGreatDoor
open Go.RowKit
theorem OwnI.other {B g : Nat} {w w' : World} {x : Value} {l : List Int} (h : OwnI B w x l) (hg : g < B) (hgr : w.grownBy w' (some g)) : OwnI B w' x l := by
 obtain ⟨a, cap, rfl, h1, h2, h⟩ := h
 refine ⟨a, cap, rfl, h1, h2, h.imp id ?_⟩
 rintro ⟨b, rfl, hB, hf, hr⟩
 have hk : w'.heap[b]? = w.heap[b]? := hgr.block b hr.1 (by intro e; have := Option.some.inj e; omega)
 have hc : ∀ o, w'.cell? ⟨b, o, none⟩ = w.cell? ⟨b, o, none⟩ := fun o => World.cell?_of_block (w := w) hk
 have hz : ∀ o, w'.frozen? ⟨b, o, none⟩ = w.frozen? ⟨b, o, none⟩ := fun o => World.frozen?_of_block (w := w) hk
 exact ⟨b, rfl, hB, fun j hj => (hz j).trans (hf j hj), Nat.lt_of_lt_of_le hr.1 hgr.size, fun i hi => (hc _).trans (hr.2 i hi)⟩
end Go.Proofs.YtbljfphdghfkfaaGreatDoor

/- Vectors: the program's copyOf and numbers, and numberOf. -/
namespace Go.Proofs.YtbljfphdghfkfaaGreatDoor
open Go.RowKit
theorem intCells_one (l : List Int) : ∀ u ∈ intCells l, u.oneCell' = true := by
 intro u hu
 simp only [intCells, List.mem_map] at hu
 obtain ⟨z, _, rfl⟩ := hu
 rfl
theorem add_none (b off n : Nat) : (⟨b, off, none⟩ : Addr).add n = ⟨b, off + n, none⟩ := by
 unfold Addr.add
 split <;> simp_all
theorem IntsAt.cells {w : World} {b off : Nat} {l : List Int} (h : IntsAt w b off l) : ∀ (j : Nat) (u : Value), (intCells l)[j]? = some u → w.cell? ((⟨b, off, none⟩ : Addr).add j) = some u := by
 intro j u hu
 obtain ⟨hj, rfl⟩ := List.getElem?_eq_some_iff.1 hu
 rw [intCells_length] at hj
 rw [add_none, h.2 j hj]
 simp [intCells, intAt, hj]
end Go.Proofs.YtbljfphdghfkfaaGreatDoor

