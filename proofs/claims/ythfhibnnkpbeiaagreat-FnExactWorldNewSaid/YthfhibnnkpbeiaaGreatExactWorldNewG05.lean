/- MLaw, EEm, XEm, TDat, SSt, TRow -/
import Derived.Test.YthfhibnnkpbeiaaGreatExactWorldNewG01
import Derived.Test.YthfhibnnkpbeiaaGreatExactWorldNewG04
import Derived.Deep.RegionHeld3
/- szModel, eqModel, markModel, heldModel. -/
namespace Go.Proofs.YthfhibnnkpbeiaaGreat
open Go.RowKit
theorem MdF.form {F : Nat → Prop} {w : World} {y : Value} {m : Md} (h : MdF F w y m) : ∃ ai ci ah ch ae ce, y = .agg #[.int .i64 m.n, .int .i64 m.s, .slice ai m.i.length ci, .slice ah m.h.length ch, .slice ae m.e.length ce, .int .i64 m.z] := by
 obtain ⟨A, B, C, vi, vh, vs, rfl, ⟨_, a1, c1, rfl, _⟩, ⟨U, F0, G, ⟨_, a2, c2, rfl, _⟩, _⟩, ⟨_, a3, c3, rfl, _⟩, _⟩ := h
 exact ⟨a1, c1, a2, c2, a3, c3, rfl⟩
set_option maxHeartbeats 2000000 in
theorem szModel_any (x : Value) (m : Md) (w : World) (h : IsM w x m) :
  Calls Tryz.prog 5 #[x, .int .i64 1048576] w fun e w' => (∃ r, e = .returned (.int .i64 r) ∧ (r = -1 ∨ (0 ≤ r ∧ SmallM m))) ∧ Below w.heap.size w w' := by
 obtain ⟨vi, vh, vs, rfl, h1, h2, h3⟩ := h
 obtain ⟨n, s, i, hh, ev, z⟩ := m
 have HH : Hid (IsH w vh hh) := h2
 obtain ⟨a1, c1, rfl, hi1, hi2, _⟩ := h1
 obtain ⟨a3, c3, rfl, he1, he2, _⟩ := h3
 have HI : Hid (i.length ≤ maxLen) := Nat.le_trans hi1 hi2
 have HE : Hid (ev.length ≤ maxLen) := Nat.le_trans he1 he2
 clear h2 hi1 hi2 he1 he2
 obtain ⟨W0, hW0⟩ : ∃ W0, w.alloc (.cells #[.int .i64 n, .int .i64 s, .slice a1 i.length c1, vh, .slice a3 ev.length c3, .int .i64 z] 26) = W0 := ⟨_, rfl⟩
 have HB0 : Hid (Below w.heap.size w W0) := by rw [← hW0]; exact (Below.refl _ w).alloc (Nat.le_refl _) _
 have HP0 : Bk W0 w.heap.size 26 #[.int .i64 n, .int .i64 s, .slice a1 i.length c1, vh, .slice a3 ev.length c3, .int .i64 z] := by rw [← hW0]; exact Bk.new w _ _
 have p2 := HP0.cell (i := 2) rfl
 have p3 := HP0.cell (i := 3) rfl
 have p4 := HP0.cell (i := 4) rfl
 clear HP0
 have go : ∀ q : Int, q = szN i.length 1048576 → q = -1 ∨ (0 ≤ q ∧ q ≤ 1048576 ∧ i.length ≤ 1048576) := by
  intro q hq
  unfold szN at hq
  split at hq <;> omega
 go_enter Tryz.func5, Tryz.ntmps5
 go_wp2_with fail
 refine (szI_any _ _ _ _ _ HI.out (by omega) (by omega)).mono ?_
 rintro e w' ⟨rfl, hw⟩
 have hw' := hw.symm
 clear hw
 subst hw'
 clear hW0
 generalize hq : szN i.length 1048576 = q
 rcases go q hq.symm with rfl | ⟨q0, q1, q2⟩
 ·clear go hq
  go_wp2
  go_ret
  exact ⟨⟨_, rfl, .inl rfl⟩, HB0.out⟩
 ·have HQ : Hid (i.length ≤ 1048576) := q2
  have q3 : ¬ (q < 0) := by omega
  clear go hq q2
  go_wp2_with fail
  refine (szH_any _ hh _ _ (HH.out.below HB0.out) q0 q1).mono ?_
  rintro e w' ⟨⟨r, rfl, hr⟩, hw⟩
  have hw' := hw.symm
  clear hw
  subst hw'
  rcases hr with rfl | ⟨r0, r1, r2, r3, r4⟩
  ·go_wp2
   go_ret
   exact ⟨⟨_, rfl, .inl rfl⟩, HB0.out⟩
  ·have r5 : ¬ (r < 0) := by omega
   have r6 : r ≤ 1048576 := by omega
   have HR : Hid ((hh.length : Int) ≤ 1048576 ∧ (∀ i, (hAt hh i).length ≤ 1048576) ∧ sumL (lens hh) hh.length ≤ 1048576) := ⟨r2, r3, r4⟩
   clear r1 r2 r3 r4
   go_wp2_with fail
   refine (szE_any _ _ _ _ _ HE.out r0 r6).mono ?_
   rintro e w' ⟨rfl, hw⟩
   have hw' := hw.symm
   clear hw
   subst hw'
   generalize hq : szN ev.length r = t
   have ht : t = -1 ∨ (0 ≤ t ∧ ev.length ≤ 1048576) := by
    unfold szN at hq
    split at hq <;> omega
   clear hq
   rcases ht with rfl | ⟨t0, t1⟩
   ·go_wp2
    go_ret
    exact ⟨⟨_, rfl, .inl rfl⟩, HB0.out⟩
   ·have t2 : ¬ (t < 0) := by omega
    go_wp2
    go_ret
    exact ⟨⟨_, rfl, .inr ⟨t0, HQ.out, by have := HR.out.1; show hh.length ≤ 1048576; omega, HR.out.2.1, HR.out.2.2, t1⟩⟩, HB0.out⟩
set_option maxHeartbeats 2000000 in
theorem eqModel_same (x y : Value) (m : Md) (w : World) (hs : SmallM m) (hx : IsM w x m) (hy : IsM w y m) :
  Calls Tryz.prog 11 #[x, y] w fun e w' => e = .returned (.bool true) ∧ Below w.heap.size w w' := by
 obtain ⟨vi, vh, vs, rfl, h1, h2, h3⟩ := hx
 obtain ⟨ui, uh, us, rfl, k1, k2, k3⟩ := hy
 obtain ⟨n, s, i, hh, ev, z⟩ := m
 have HI : Hid (IsI w vi i ∧ IsI w ui i) := ⟨h1, k1⟩
 have HH : Hid (IsH w vh hh ∧ IsH w uh hh) := ⟨h2, k2⟩
 have HE : Hid (IsEvs w vs ev ∧ IsEvs w us ev) := ⟨h3, k3⟩
 have HS : Hid (SmallM ⟨n, s, i, hh, ev, z⟩) := hs
 clear h1 h2 h3 k1 k2 k3 hs
 obtain ⟨W0, hW0⟩ : ∃ W0, (w.alloc (.cells #[.int .i64 n, .int .i64 s, vi, vh, vs, .int .i64 z] 31)).alloc (.cells #[.int .i64 n, .int .i64 s, ui, uh, us, .int .i64 z] 31) = W0 := ⟨_, rfl⟩
 have HB0 : Hid (Below w.heap.size w W0) := by rw [← hW0]; exact ((Below.refl _ w).alloc (Nat.le_refl _) _).alloc (by simp) _
 have HP0 : Hid (Bk W0 w.heap.size 31 #[.int .i64 n, .int .i64 s, vi, vh, vs, .int .i64 z]) := by rw [← hW0]; exact (Bk.new w _ _).alloc _
 have HQ0 : Hid (Bk W0 (w.heap.size + 1) 31 #[.int .i64 n, .int .i64 s, ui, uh, us, .int .i64 z]) := by rw [← hW0]; exact Bk.newAt (by simp) _ _
 obtain ⟨p0, p1, p2⟩ := c3_6 HP0.out
 obtain ⟨q0, q1, q2⟩ := c3_6 HQ0.out
 go_enter Tryz.func11, Tryz.ntmps11
 go_wp2_with fail
 clear p0 p1 p2 q0 q1 q2 hW0
 refine (eqI_same _ _ i _ (by have : i.length ≤ 1048576 := HS.out.i; omega) (HI.out.1.below HB0.out) (HI.out.2.below HB0.out)).mono ?_
 rintro e w1 ⟨rfl, hb⟩
 have HB1 : Hid (Below w.heap.size w w1) := HB0.out.trans (hb.mono HB0.out.size)
 have HP1 : Hid (Bk w1 w.heap.size 31 #[.int .i64 n, .int .i64 s, vi, vh, vs, .int .i64 z]) := HP0.out.below hb
 have HQ1 : Hid (Bk w1 (w.heap.size + 1) 31 #[.int .i64 n, .int .i64 s, ui, uh, us, .int .i64 z]) := HQ0.out.below hb
 have p3 := HP1.out.cell (i := 3) rfl
 have q3 := HQ1.out.cell (i := 3) rfl
 clear hb HB0 HP0 HQ0
 go_wp2_with fail
 clear p3 q3
 refine (eqH_same _ _ hh _ HS.out.h HS.out.r (HH.out.1.below HB1.out) (HH.out.2.below HB1.out)).mono ?_
 rintro e w2 ⟨rfl, hb⟩
 have HB2 : Hid (Below w.heap.size w w2) := HB1.out.trans (hb.mono HB1.out.size)
 have HP2 : Hid (Bk w2 w.heap.size 31 #[.int .i64 n, .int .i64 s, vi, vh, vs, .int .i64 z]) := HP1.out.below hb
 have HQ2 : Hid (Bk w2 (w.heap.size + 1) 31 #[.int .i64 n, .int .i64 s, ui, uh, us, .int .i64 z]) := HQ1.out.below hb
 have p4 := HP2.out.cell (i := 4) rfl
 have q4 := HQ2.out.cell (i := 4) rfl
 clear hb HB1 HP1 HQ1
 go_wp2_with fail
 clear p4 q4
 refine (eqS_same _ _ ev _ HS.out.e (HE.out.1.below HB2.out) (HE.out.2.below HB2.out)).mono ?_
 rintro e w3 ⟨rfl, hb⟩
 have HB3 : Hid (Below w.heap.size w w3) := HB2.out.trans (hb.mono HB2.out.size)
 have p5 := (HP2.out.below hb).cell (i := 5) rfl
 have q5 := (HQ2.out.below hb).cell (i := 5) rfl
 clear hb HB2 HP2 HQ2
 go_wp2
 go_ret
 exact ⟨rfl, HB3.out⟩
def HeldM (F : Nat → Prop) (w : World) (x : Value) (m : Md) : Prop :=
 ∃ (A B C : Nat → Prop) (vi vh vs : Value) (U : Nat → Value), x = .agg #[.int .i64 m.n, .int .i64 m.s, vi, vh, vs, .int .i64 m.z] ∧ RowF A w vi m.i.length 1 (mkCells 1 (m.i.length * 1)) ∧
  RowsF B w vh m.h.length U (lens m.h) (mkRows (1 + (m.i.length : Int)) (lens m.h)) ∧ RowF C w vs m.e.length 7 (mkCells (1 + (m.i.length : Int) + 4 * (sumL (lens m.h) m.h.length : Int)) (m.e.length * 7)) ∧
  (∀ k, A k → F k ∧ ¬ B k ∧ ¬ C k) ∧ (∀ k, B k → F k ∧ ¬ C k) ∧ ∀ k, C k → F k
theorem HeldM.turns {F S : Nat → Prop} {w w' : World} {x : Value} {m : Md} (h : HeldM F w x m) (ht : Turns S w w') (hS : ∀ k, F k → ¬ S k) : HeldM F w' x m := by
 obtain ⟨A, B, C, vi, vh, vs, U, rfl, h1, h2, h3, h4, h5, h6⟩ := h
 exact ⟨A, B, C, vi, vh, vs, U, rfl, h1.turns ht (fun k hk => hS k (h4 k hk).1), h2.turns ht (fun k hk => hS k (h5 k hk).1), h3.turns ht (fun k hk => hS k (h6 k hk)), h4, h5, h6⟩
theorem HeldM.below {F : Nat → Prop} {w w' : World} {x : Value} {m : Md} (h : HeldM F w x m) (hb : Below w.heap.size w w') : HeldM F w' x m :=
 h.turns (S := fun _ => False) (Turns.of_below hb) (fun _ _ => id)
def markNo (m : Md) : Int := 1 + (m.i.length : Int) + 4 * (sumL (lens m.h) m.h.length : Int) + 7 * (m.e.length : Int)
theorem markNo_pos (m : Md) : 1 ≤ markNo m := by unfold markNo; omega
set_option maxHeartbeats 2000000 in
theorem markModel_any {F : Nat → Prop} {x : Value} {m : Md} {w : World} (hs : SmallM m) (h : MdF F w x m) (hF : ∀ k, F k → k < w.heap.size) :
  Calls Tryz.prog 13 #[x, .int .i64 1] w fun e w' => e = .returned (.int .i64 (markNo m)) ∧ HeldM F w' x m ∧ Turns F w w' := by
 obtain ⟨A, B, C, vi, vh, vs, rfl, h1, ⟨U, h2⟩, h3, h4, h5, h6⟩ := h
 obtain ⟨n, s, i, hh, ev, z⟩ := m
 have HI : Hid (RowF A w vi i.length 1 (intCells i)) := h1
 have HH : Hid (RowsF B w vh hh.length U (lens hh) (fun i => cellsO (hAt hh i))) := h2
 have HE : Hid (RowF C w vs ev.length 7 (cellsL ev)) := h3
 have HS : Hid (SmallM ⟨n, s, i, hh, ev, z⟩) := hs
 have HF : Hid ((∀ k, F k → k < w.heap.size) ∧ (∀ k, A k → F k ∧ ¬ B k ∧ ¬ C k) ∧ (∀ k, B k → F k ∧ ¬ C k) ∧ ∀ k, C k → F k) := ⟨hF, h4, h5, h6⟩
 clear h1 h2 h3 h4 h5 h6 hs hF
 obtain ⟨W0, hW0⟩ : ∃ W0, w.alloc (.cells #[.int .i64 n, .int .i64 s, vi, vh, vs, .int .i64 z] 31) = W0 := ⟨_, rfl⟩
 have HB0 : Hid (Below w.heap.size w W0) := by rw [← hW0]; exact (Below.refl _ w).alloc (Nat.le_refl _) _
 have HP0 : Hid (Bk W0 w.heap.size 31 #[.int .i64 n, .int .i64 s, vi, vh, vs, .int .i64 z]) := by rw [← hW0]; exact Bk.new w _ _
 have p2 := HP0.out.cell (i := 2) rfl
 have hi : i.length ≤ 1048576 := HS.out.i
 have hh1 : sumL (lens hh) hh.length ≤ 1048576 := HS.out.t
 have hh2 : hh.length ≤ 1048576 := HS.out.h
 have he : ev.length ≤ 1048576 := HS.out.e
 go_enter Tryz.func13, Tryz.ntmps13
 go_wp2_with fail
 clear p2 hW0
 refine (markIF (F := A) 1 (by omega) (by omega) (by omega) (HI.out.below HB0.out)).mono ?_
 rintro e w1 ⟨rfl, hr, ht⟩
 have HT1 : Hid (Turns F W0 w1) := ht.mono (fun k hk => (HF.out.2.1 k hk).1)
 have HI1 : Hid (RowF A w1 vi i.length 1 (mkCells 1 (i.length * 1))) := hr
 have HH1 : Hid (RowsF B w1 vh hh.length U (lens hh) (fun i => cellsO (hAt hh i))) := (HH.out.below HB0.out).turns ht (fun k hk ha => (HF.out.2.1 k ha).2.1 hk)
 have HE1 : Hid (RowF C w1 vs ev.length 7 (cellsL ev)) := (HE.out.below HB0.out).turns ht (fun k hk ha => (HF.out.2.1 k ha).2.2 hk)
 have HP1 : Hid (Bk w1 w.heap.size 31 #[.int .i64 n, .int .i64 s, vi, vh, vs, .int .i64 z]) := HP0.out.turns HT1.out (fun hk => by have := HF.out.1 _ hk; omega)
 have p3 := HP1.out.cell (i := 3) rfl
 clear hr ht HI HH HE HP0
 go_wp2_with fail
 clear p3
 refine (markHF (F := B) (1 + (i.length : Int)) (by omega) (by omega) (by omega) (by omega) HH1.out).mono ?_
 rintro e w2 ⟨rfl, hr, ht⟩
 have HT2 : Hid (Turns F W0 w2) := HT1.out.trans (ht.mono (fun k hk => (HF.out.2.2.1 k hk).1))
 have HI2 : Hid (RowF A w2 vi i.length 1 (mkCells 1 (i.length * 1))) := HI1.out.turns ht (fun k hk hb => (HF.out.2.1 k hk).2.1 hb)
 have HH2 : Hid (RowsF B w2 vh hh.length U (lens hh) (mkRows (1 + (i.length : Int)) (lens hh))) := hr
 have HE2 : Hid (RowF C w2 vs ev.length 7 (cellsL ev)) := HE1.out.turns ht (fun k hk hb => (HF.out.2.2.1 k hb).2 hk)
 have HP2 : Hid (Bk w2 w.heap.size 31 #[.int .i64 n, .int .i64 s, vi, vh, vs, .int .i64 z]) := HP1.out.turns ht (fun hk => by have := HF.out.1 _ (HF.out.2.2.1 _ hk).1; omega)
 have p4 := HP2.out.cell (i := 4) rfl
 clear hr ht HI1 HH1 HE1 HP1 HT1
 go_wp2_with fail
 clear p4
 refine (markEF (F := C) (1 + (i.length : Int) + 4 * (sumL (lens hh) hh.length : Int)) (by omega) (by omega) (by omega) HE2.out).mono ?_
 rintro e w3 ⟨rfl, hr, ht⟩
 have HT3 : Hid (Turns F W0 w3) := HT2.out.trans (ht.mono (fun k hk => HF.out.2.2.2 k hk))
 have HI3 : Hid (RowF A w3 vi i.length 1 (mkCells 1 (i.length * 1))) := HI2.out.turns ht (fun k hk hc => (HF.out.2.1 k hk).2.2 hc)
 have HH3 : Hid (RowsF B w3 vh hh.length U (lens hh) (mkRows (1 + (i.length : Int)) (lens hh))) := HH2.out.turns ht (fun k hk hc => (HF.out.2.2.1 k hk).2 hc)
 have HE3 : Hid (RowF C w3 vs ev.length 7 (mkCells (1 + (i.length : Int) + 4 * (sumL (lens hh) hh.length : Int)) (ev.length * 7))) := hr
 clear hr ht HI2 HH2 HE2 HP2 HT2
 go_wp2
 go_ret
 exact ⟨rfl, ⟨A, B, C, vi, vh, vs, U, rfl, HI3.out, HH3.out, HE3.out, HF.out.2⟩, (Turns.of_below HB0.out).trans HT3.out⟩
set_option maxHeartbeats 2000000 in
theorem heldModel_any {F : Nat → Prop} {x : Value} {m : Md} {w : World} (hs : SmallM m) (h : HeldM F w x m) :
  Calls Tryz.prog 46 #[x, .int .i64 1] w fun e w' => e = .returned (.int .i64 (markNo m)) ∧ Below w.heap.size w w' := by
 obtain ⟨A, B, C, vi, vh, vs, U, rfl, h1, h2, h3, h4, h5, h6⟩ := h
 obtain ⟨n, s, i, hh, ev, z⟩ := m
 have HI : Hid (RowF A w vi i.length 1 (mkCells 1 (i.length * 1))) := h1
 have HH : Hid (RowsF B w vh hh.length U (lens hh) (mkRows (1 + (i.length : Int)) (lens hh))) := h2
 have HE : Hid (RowF C w vs ev.length 7 (mkCells (1 + (i.length : Int) + 4 * (sumL (lens hh) hh.length : Int)) (ev.length * 7))) := h3
 have HS : Hid (SmallM ⟨n, s, i, hh, ev, z⟩) := hs
 clear h1 h2 h3 h4 h5 h6 hs
 obtain ⟨W0, hW0⟩ : ∃ W0, w.alloc (.cells #[.int .i64 n, .int .i64 s, vi, vh, vs, .int .i64 z] 31) = W0 := ⟨_, rfl⟩
 have HB0 : Hid (Below w.heap.size w W0) := by rw [← hW0]; exact (Below.refl _ w).alloc (Nat.le_refl _) _
 have HP0 : Bk W0 w.heap.size 31 #[.int .i64 n, .int .i64 s, vi, vh, vs, .int .i64 z] := by rw [← hW0]; exact Bk.new w _ _
 have p2 := HP0.cell (i := 2) rfl
 have p3 := HP0.cell (i := 3) rfl
 have p4 := HP0.cell (i := 4) rfl
 clear HP0
 have hi : i.length ≤ 1048576 := HS.out.i
 have hh1 : sumL (lens hh) hh.length ≤ 1048576 := HS.out.t
 have hh2 : hh.length ≤ 1048576 := HS.out.h
 have he : ev.length ≤ 1048576 := HS.out.e
 have n1 : ¬ (1 + (i.length : Int) < 0) := by omega
 have n2 : ¬ (1 + (i.length : Int) + 4 * (sumL (lens hh) hh.length : Int) < 0) := by omega
 have n3 : ¬ (1 + (i.length : Int) + 4 * (sumL (lens hh) hh.length : Int) + 7 * (ev.length : Int) < 0) := by omega
 go_enter Tryz.func46, Tryz.ntmps46
 go_wp2_with fail
 clear hW0
 refine (heldIF (F := A) 1 (by omega) (by omega) (by omega) (HI.out.below HB0.out)).mono ?_
 rintro e w' ⟨rfl, hw⟩
 have hw' := hw.symm
 clear hw
 subst hw'
 go_wp2_with fail
 refine (heldHF (F := B) (1 + (i.length : Int)) (by omega) (by omega) (by omega) (by omega) (HH.out.below HB0.out)).mono ?_
 rintro e w' ⟨rfl, hw⟩
 have hw' := hw.symm
 clear hw
 subst hw'
 go_wp2_with fail
 refine (heldEF (F := C) (1 + (i.length : Int) + 4 * (sumL (lens hh) hh.length : Int)) (by omega) (by omega) (by omega) (HE.out.below HB0.out)).mono ?_
 rintro e w' ⟨rfl, hw⟩
 have hw' := hw.symm
 clear hw
 subst hw'
 go_wp2
 go_ret
 exact ⟨rfl, HB0.out⟩
end Go.Proofs.YthfhibnnkpbeiaaGreat

/- Emits as plain values, and as cells. -/
namespace Go.Proofs.YthfhibnnkpbeiaaGreat
open Go.RowKit
structure Em where
 t : Int
 l : Int
 v : Int
def xAt (l : List Em) (i : Nat) : Em := l.getD i ⟨0, 0, 0⟩
def Em.cs (e : Em) : List Value := [.int .i64 e.t, .int .i64 e.l, .int .i64 e.v]
def cellsX : List Em → List Value
 | [] => []
 | e :: l => e.cs ++ cellsX l
theorem cellsX_length : ∀ l : List Em, (cellsX l).length = l.length * 3
 | [] => rfl
 | e :: l => by simp [cellsX, cellsX_length l, Em.cs]; omega
theorem xAt_cons_succ (e : Em) (l : List Em) (i : Nat) : xAt (e :: l) (i + 1) = xAt l i := by simp [xAt]
theorem cellsX_get : ∀ (l : List Em) (i r : Nat), i < l.length → r < 3 → (cellsX l)[i * 3 + r]? = (xAt l i).cs[r]?
 | [], _, _, h, _ => by simp at h
 | e :: l, 0, r, _, hr => by
  have : r < e.cs.length := by simpa [Em.cs] using hr
  simp only [cellsX, Nat.zero_mul, Nat.zero_add]
  rw [List.getElem?_append_left this]
  simp [xAt]
 | e :: l, i + 1, r, h, hr => by
  have h1 := cellsX_get l i r (by simpa using h) hr
  have : e.cs.length ≤ (i + 1) * 3 + r := by simp [Em.cs]; omega
  simp only [cellsX]
  rw [List.getElem?_append_right this, xAt_cons_succ, ← h1]
  congr 1
  simp [Em.cs]; omega
end Go.Proofs.YthfhibnnkpbeiaaGreat

/- Emits: how they are read, held against each other, marked, and found again. -/
namespace Go.Proofs.YthfhibnnkpbeiaaGreat
open Go.RowKit
theorem hidXEm {p : Prop} (h : p) : Hid p := h
structure XAt (w : World) (b o : Nat) (e : Em) : Prop where
 f0 : w.cell? ⟨b, o, none⟩ = some (.int .i64 e.t)
 f1 : w.cell? ⟨b, o + 1, none⟩ = some (.int .i64 e.l)
 f2 : w.cell? ⟨b, o + 2, none⟩ = some (.int .i64 e.v)
theorem XAt.below {w w' : World} {B b o : Nat} {e : Em} (h : XAt w b o e) (hb : Below B w w') (hlt : b < B) : XAt w' b o e :=
 ⟨(hb.cell hlt).trans h.f0, (hb.cell hlt).trans h.f1, (hb.cell hlt).trans h.f2⟩
def XsAt (w : World) (b off : Nat) (l : List Em) : Prop := b < w.heap.size ∧ ∀ i, i < l.length → XAt w b (off + i * 3) (xAt l i)
def IsX (w : World) (x : Value) (l : List Em) : Prop := ∃ a cap, x = .slice a l.length cap ∧ l.length ≤ cap ∧ cap ≤ maxLen ∧ (l = [] ∨ ∃ b off, a = some ⟨b, off, none⟩ ∧ XsAt w b off l)
set_option maxHeartbeats 1000000 in
theorem eqEmit_same (t l v : Int) (w : World) :
  Calls Tryz.prog 86 #[.agg #[.int .i64 t, .int .i64 l, .int .i64 v], .agg #[.int .i64 t, .int .i64 l, .int .i64 v]] w fun e w' => e = .returned (.bool true) ∧ Below w.heap.size w w' := by
 go_enter Tryz.func86, Tryz.ntmps86
 go_wp2
 go_ret
 exact ⟨rfl, ((Below.refl _ _).alloc (Nat.le_refl _) _).alloc (by simp) _⟩
set_option maxHeartbeats 1000000 in
theorem eqX_same (x y : Value) (l : List Em) (w : World) (hl : l.length ≤ 1048576) (hx : IsX w x l) (hy : IsX w y l) :
  Calls Tryz.prog 39 #[x, y] w fun e w' => e = .returned (.bool true) ∧ Below w.heap.size w w' := by
 obtain ⟨a, cap, rfl, h1, h2, h⟩ := hx
 obtain ⟨a', cap', rfl, h1', h2', h'⟩ := hy
 clear h1 h2 h1' h2'
 by_cases hz : l = []
 ·subst hz
  clear h h'
  go_enter Tryz.func39, Tryz.ntmps39
  go_wp2
  go_loop [5] (fun i => i = .int .i64 0) (fun _ => 0)
  case atStart => rfl
  case round =>
   subst hrel
   go_wp2
   go_ret
   exact ⟨rfl, Below.refl _ _⟩
 ·obtain ⟨b, off, rfl, hb, hc⟩ := h.resolve_left hz
  obtain ⟨b', off', rfl, hb', hc'⟩ := h'.resolve_left hz
  clear h h' hz
  go_enter Tryz.func39, Tryz.ntmps39
  go_wp2
  go_loopw [5] (fun i wr => ∃ k : Nat, k ≤ l.length ∧ i = .int .i64 k ∧ Below w.heap.size w wr) (fun i _ => l.length - (intOf i).toNat)
  case atStart => exact ⟨0, Nat.zero_le _, rfl, Below.refl _ _⟩
  case round =>
   obtain ⟨k, hk, rfl, hB⟩ := hrel
   have HB := hidXEm hB
   by_cases hlt : k < l.length
   ·obtain ⟨f0, f1, f2⟩ := (hc k hlt).below hB hb
    obtain ⟨e0, e1, e2⟩ := (hc' k hlt).below hB hb'
    have hbr : b < wr.heap.size := Nat.lt_of_lt_of_le hb hB.size
    have hbr' : b' < wr.heap.size := Nat.lt_of_lt_of_le hb' hB.size
    clear hB hc hc'
    go_wp2_with fail
    go_region_held3 (fun W => W.cell? ⟨b, off + k * 3, none⟩ = some (.int .i64 (xAt l k).t) ∧ W.cell? ⟨b, off + k * 3 + 1, none⟩ = some (.int .i64 (xAt l k).l) ∧ W.cell? ⟨b, off + k * 3 + 2, none⟩ = some (.int .i64 (xAt l k).v) ∧ W.cell? ⟨b', off' + k * 3, none⟩ = some (.int .i64 (xAt l k).t) ∧ W.cell? ⟨b', off' + k * 3 + 1, none⟩ = some (.int .i64 (xAt l k).l) ∧ W.cell? ⟨b', off' + k * 3 + 2, none⟩ = some (.int .i64 (xAt l k).v)) ((repeat' apply And.intro) <;> first | (go_keep; done) | (rw [hcA _ _ (by first | omega | (simp; omega) | simp [*])]; simp [*]; done))
     (first | (go_at_call 86; refine (eqEmit_same _ _ _ _).mono ?_; rintro e w2 ⟨rfl, hb2⟩; obtain ⟨hcA, hfA⟩ := bcell hb2))
    clear hcA hfA
    go_wp2
    go_roundw
    case rel => exact ⟨k + 1, by omega, by go_num, HB.out.drew.trans (hb2.mono (by have := HB.out.size; simpa using this))⟩
    case measure => simp [intOf]; omega
   ·clear hB hc hc'
    go_wp2
    go_ret
    exact ⟨rfl, HB.out⟩
set_option maxHeartbeats 4000000 in
theorem markXF {F : Nat → Prop} {x : Value} {n : Nat} {cs : List Value} {w : World} (z : Int) (hn : n ≤ 1048577) (hz0 : 0 ≤ z) (hz1 : z ≤ 1073741824) (h : RowF F w x n 3 cs) :
  Calls Tryz.prog 45 #[x, .int .i64 z] w fun e w' => e = .returned (.int .i64 (z + 3 * (n : Int))) ∧ RowF F w' x n 3 (mkCells z (n * 3)) ∧ Turns F w w' := by
 obtain ⟨a, cap, rfl, h1, h2, h⟩ := h.mkTo z
 have HM : Hid (n ≤ cap ∧ cap ≤ maxLen) := ⟨h1, h2⟩
 clear h1 h2
 by_cases hz : n = 0
 ·subst hz
  clear h
  go_enter Tryz.func45, Tryz.ntmps45
  go_wp2
  go_loop [5, 1] (fun i y => i = .int .i64 0 ∧ y = .int .i64 z) (fun _ _ => 0)
  case atStart => exact ⟨rfl, rfl⟩
  case round =>
   obtain ⟨rfl, rfl⟩ := hrel
   go_wp2
   go_ret
   exact ⟨ret_int (by simp), RowF.nil HM.out.2, Turns.refl _ _⟩
 ·obtain ⟨g, rfl, hF, h⟩ := h.resolve_left hz
  have HR0 := hidXEm h
  have HF : Hid (F g) := hF
  clear h hz hF
  go_enter Tryz.func45, Tryz.ntmps45
  go_wp2
  go_loopw [5, 1] (fun i y wr => ∃ k : Nat, k ≤ n ∧ i = .int .i64 k ∧ y = .int .i64 (z + 3 * (k : Int)) ∧ MkTo wr g (n * 3) z (k * 3) ∧ Turns (fun b => b = g) w wr) (fun i _ _ => n - (intOf i).toNat)
  case atStart => exact ⟨0, Nat.zero_le _, rfl, by simp, by rw [Nat.zero_mul]; exact HR0.out, Turns.refl _ _⟩
  case round =>
   obtain ⟨k, hk, rfl, rfl, hR, hg⟩ := hrel
   have HR := hidXEm hR
   have HG := hidXEm hg
   clear hR hg
   by_cases hlt : k < n
   ·have hh : ∀ j, j < 3 → (∃ u, wr.cell? ⟨g, k * 3 + j, none⟩ = some u) ∧ wr.frozen? ⟨g, k * 3 + j, none⟩ = false := fun j hj => ⟨Option.isSome_iff_exists.1 (HR.out.2.1 _ (by omega)).1, (HR.out.2.1 _ (by omega)).2⟩
    obtain ⟨⟨v0, g0⟩, f0⟩ := hh 0 (by omega)
    obtain ⟨⟨v1, g1⟩, f1⟩ := hh 1 (by omega)
    obtain ⟨⟨v2, g2⟩, f2⟩ := hh 2 (by omega)
    rw [Nat.add_zero] at g0 f0
    clear hh
    obtain ⟨y, hy⟩ : ∃ y : Int, y = z + 3 * (k : Int) := ⟨_, rfl⟩
    have hy0 : 0 ≤ y := by omega
    have hy1 : y ≤ 1090000000 := by omega
    have HY := hidXEm hy
    rw [← hy]
    clear hy
    go_wp2
    go_roundw
    case rel =>
     have hY := HY.out
     refine ⟨k + 1, by omega, by go_num, by rw [show y + 1 + 1 + 1 = z + 3 * ((k + 1 : Nat) : Int) from by omega], ?_, ?_⟩
     ·rw [show (k + 1) * 3 = k * 3 + 3 from by omega]
      exact ((HR.out.put (by omega) (u := y) (by omega)).put (by omega) (u := y + 1) (by omega)).put (by omega) (u := y + 1 + 1) (by omega)
     ·exact HG.out.trans (((one_add wr g _ _).trans (one_add _ _ _ _)).trans (one_add _ _ _ _))
    case measure => simp [intOf]; omega
   ·go_wp2
    go_ret
    obtain rfl : k = n := by omega
    exact ⟨rfl, MkTo.row HR.out HF.out HM.out.1 HM.out.2, HG.out.mono (fun k e => e ▸ HF.out)⟩
set_option maxHeartbeats 4000000 in
theorem heldXF {F : Nat → Prop} {x : Value} {n : Nat} {w : World} (z : Int) (hn : n ≤ 1048577) (hz0 : 0 ≤ z) (hz1 : z ≤ 1073741824) (h : RowF F w x n 3 (mkCells z (n * 3))) :
  Calls Tryz.prog 51 #[x, .int .i64 z] w fun e w' => e = .returned (.int .i64 (z + 3 * (n : Int))) ∧ w' = w := by
 obtain ⟨a, cap, rfl, hm⟩ := h.marked
 clear h
 by_cases hz : n = 0
 ·subst hz
  clear hm
  go_enter Tryz.func51, Tryz.ntmps51
  go_wp2
  go_loop [5, 1] (fun i y => i = .int .i64 0 ∧ y = .int .i64 z) (fun _ _ => 0)
  case atStart => exact ⟨rfl, rfl⟩
  case round =>
   obtain ⟨rfl, rfl⟩ := hrel
   go_wp2
   go_ret
   exact ⟨ret_int (by simp), rfl⟩
 ·obtain ⟨g, rfl, h⟩ := hm.resolve_left hz
  have HR := hidXEm h
  clear h hz hm
  go_enter Tryz.func51, Tryz.ntmps51
  go_wp2
  go_loop [5, 1] (fun i y => ∃ k : Nat, k ≤ n ∧ i = .int .i64 k ∧ y = .int .i64 (z + 3 * (k : Int))) (fun i _ => n - (intOf i).toNat)
  case atStart => exact ⟨0, Nat.zero_le _, rfl, by simp⟩
  case round =>
   obtain ⟨k, hk, rfl, rfl⟩ := hrel
   by_cases hlt : k < n
   ·have hh := fun j (hj : j < 3) => HR.out (k * 3 + j) (by omega)
    obtain ⟨y, hy⟩ : ∃ y : Int, y = z + 3 * (k : Int) := ⟨_, rfl⟩
    have g0 := hh 0 (by omega)
    rw [show z + ((k * 3 + 0 : Nat) : Int) = y from by omega] at g0
    have g1 := hh 1 (by omega)
    rw [show z + ((k * 3 + 1 : Nat) : Int) = y + 1 from by omega] at g1
    have g2 := hh 2 (by omega)
    rw [show z + ((k * 3 + 2 : Nat) : Int) = y + 1 + 1 from by omega] at g2
    rw [Nat.add_zero] at g0
    clear hh
    have hy0 : 0 ≤ y := by omega
    have hy1 : y ≤ 1090000000 := by omega
    have HY := hidXEm hy
    rw [← hy]
    clear hy
    go_wp2
    go_round
    case rel => exact ⟨k + 1, by omega, by go_num, by rw [show y + 1 + 1 + 1 = z + 3 * ((k + 1 : Nat) : Int) from by have := HY.out; omega]⟩
    case measure => simp [intOf]; omega
   ·go_wp2
    go_ret
    obtain rfl : k = n := by omega
    exact ⟨rfl, rfl⟩
end Go.Proofs.YthfhibnnkpbeiaaGreat

/- Data in memory, whatever their shape: numbers and flags, and rows of cells, which hold data again. How they are read; how they are owned: no two rows in one block. -/
namespace Go.Proofs.YthfhibnnkpbeiaaGreat
open Go.RowKit
inductive Dat where
 | val (v : Value)
 | row (c n : Nat) (f : Nat → Dat)
inductive IsD (w : World) : Value → Dat → Prop
 | val (v : Value) : IsD w v (.val v)
 | nil (a : Option Addr) (cap c : Nat) (f : Nat → Dat) (h : cap ≤ maxLen) : IsD w (.slice a 0 cap) (.row c 0 f)
 | row (b off n cap c : Nat) (f : Nat → Dat) (U : Nat → Value) (h1 : n ≤ cap) (h2 : cap ≤ maxLen) (hb : b < w.heap.size) (hc : ∀ j, j < n * c → w.cell? ⟨b, off + j, none⟩ = some (U j)) (hs : ∀ j, j < n * c → IsD w (U j) (f j)) : IsD w (.slice (some ⟨b, off, none⟩) n cap) (.row c n f)
theorem IsD.under {w w' : World} {x : Value} {d : Dat} (h : IsD w x d) (hb : Below w.heap.size w w') : IsD w' x d := by
 induction h with
 | val v => exact .val v
 | nil a cap c f h => exact .nil a cap c f h
 | row b off n cap c f U h1 h2 hB hc hs ih => exact .row b off n cap c f U h1 h2 (Nat.lt_of_lt_of_le hB hb.size) (fun j hj => (hb.cell (p := ⟨b, off + j, none⟩) hB).trans (hc j hj)) ih
theorem IsD.parts {w : World} {x : Value} {c n : Nat} {f : Nat → Dat} (h : IsD w x (.row c n f)) : ∃ a cap, x = .slice a n cap ∧ n ≤ cap ∧ cap ≤ maxLen ∧
  (n = 0 ∨ ∃ b off, a = some ⟨b, off, none⟩ ∧ b < w.heap.size ∧ ∀ j, j < n * c → ∃ u, w.cell? ⟨b, off + j, none⟩ = some u ∧ IsD w u (f j)) := by
 cases h with
 | nil a cap _ _ h => exact ⟨a, cap, rfl, Nat.zero_le _, h, .inl rfl⟩
 | row b off _ cap _ _ U h1 h2 hB hc hs => exact ⟨_, cap, rfl, h1, h2, .inr ⟨b, off, rfl, hB, fun j hj => ⟨U j, hc j hj, hs j hj⟩⟩⟩
theorem IsD.of_parts {w : World} {a : Option Addr} {cap c n : Nat} {f : Nat → Dat} (h1 : n ≤ cap) (h2 : cap ≤ maxLen) (h : n = 0 ∨ ∃ b off, a = some ⟨b, off, none⟩ ∧ b < w.heap.size ∧ ∀ j, j < n * c → ∃ u, w.cell? ⟨b, off + j, none⟩ = some u ∧ IsD w u (f j)) : IsD w (.slice a n cap) (.row c n f) := by
 rcases h with rfl | ⟨b, off, rfl, hB, h⟩
 ·exact .nil a cap c f h2
 ·refine .row b off n cap c f (fun j => (w.cell? ⟨b, off + j, none⟩).getD (.int .i64 0)) h1 h2 hB (fun j hj => ?_) (fun j hj => ?_)
  ·obtain ⟨u, hu, _⟩ := h j hj
   rw [hu]; rfl
  ·obtain ⟨u, hu, hd⟩ := h j hj
   rw [hu]; exact hd
theorem IsD.val_eq {w : World} {x v : Value} (h : IsD w x (.val v)) : x = v := by cases h; rfl
inductive OwnD (w : World) : (Nat → Prop) → Value → Dat → Prop
 | val (F : Nat → Prop) (v : Value) : OwnD w F v (.val v)
 | nil (F : Nat → Prop) (a : Option Addr) (cap c : Nat) (f : Nat → Dat) (h : cap ≤ maxLen) : OwnD w F (.slice a 0 cap) (.row c 0 f)
 | row (F : Nat → Prop) (g n cap c : Nat) (f : Nat → Dat) (U : Nat → Value) (G : Nat → Nat → Prop) (h1 : n ≤ cap) (h2 : cap ≤ maxLen) (hg : g < w.heap.size) (hF : F g)
   (hc : ∀ j, j < n * c → w.cell? ⟨g, j, none⟩ = some (U j) ∧ w.frozen? ⟨g, j, none⟩ = false) (hs : ∀ j, j < n * c → OwnD w (G j) (U j) (f j))
   (hG : ∀ j, j < n * c → ∀ k, G j k → F k ∧ k ≠ g) (hGG : ∀ i j, i < n * c → j < n * c → i ≠ j → ∀ k, G i k → ¬ G j k) : OwnD w F (.slice (some ⟨g, 0, none⟩) n cap) (.row c n f)
theorem OwnD.turns {S F : Nat → Prop} {w w' : World} {x : Value} {d : Dat} (h : OwnD w F x d) (ht : Turns S w w') (hS : ∀ k, F k → ¬ S k) : OwnD w' F x d := by
 induction h with
 | val F v => exact .val F v
 | nil F a cap c f h => exact .nil F a cap c f h
 | row F g n cap c f U G h1 h2 hg hF hc hs hG hGG ih =>
  exact .row F g n cap c f U G h1 h2 (Nat.lt_of_lt_of_le hg ht.size) hF (fun j hj => by rw [ht.cell hg (hS g hF), ht.frozen hg (hS g hF)]; exact hc j hj) (fun j hj => ih j hj fun k hk => hS k (hG j hj k hk).1) hG hGG
theorem OwnD.under {F : Nat → Prop} {w w' : World} {x : Value} {d : Dat} (h : OwnD w F x d) (hb : Below w.heap.size w w') : OwnD w' F x d :=
 h.turns (S := fun _ => False) (Turns.of_below hb) (fun _ _ => id)
theorem OwnD.mono {F F' : Nat → Prop} {w : World} {x : Value} {d : Dat} (h : OwnD w F x d) (hF : ∀ k, F k → F' k) : OwnD w F' x d := by
 cases h with
 | val => exact .val F' _
 | nil F a cap c f h => exact .nil F' a cap c f h
 | row F g n cap c f U G h1 h2 hg hF0 hc hs hG hGG =>
  exact .row F' g n cap c f U G h1 h2 hg (hF g hF0) hc hs (fun j hj k hk => ⟨hF k (hG j hj k hk).1, (hG j hj k hk).2⟩) hGG
theorem OwnD.isD {F : Nat → Prop} {w : World} {x : Value} {d : Dat} (h : OwnD w F x d) : IsD w x d := by
 induction h with
 | val F v => exact .val v
 | nil F a cap c f h => exact .nil a cap c f h
 | row F g n cap c f U G h1 h2 hg hF hc hs hG hGG ih =>
  exact .row g 0 n cap c f U h1 h2 hg (fun j hj => by rw [Nat.zero_add]; exact (hc j hj).1) ih
theorem OwnD.parts {F : Nat → Prop} {w : World} {x : Value} {c n : Nat} {f : Nat → Dat} (h : OwnD w F x (.row c n f)) : ∃ a cap, x = .slice a n cap ∧ n ≤ cap ∧ cap ≤ maxLen ∧
  (n = 0 ∨ ∃ g, a = some ⟨g, 0, none⟩ ∧ g < w.heap.size ∧ F g) := by
 cases h with
 | nil F a cap _ _ h => exact ⟨a, cap, rfl, Nat.zero_le _, h, .inl rfl⟩
 | row F g _ cap _ _ U G h1 h2 hg hF hc hs hG hGG => exact ⟨_, cap, rfl, h1, h2, .inr ⟨g, rfl, hg, hF⟩⟩
theorem OwnD.congr {F : Nat → Prop} {w : World} {x : Value} {c n : Nat} {f f' : Nat → Dat} (h : OwnD w F x (.row c n f)) (hf : ∀ j, j < n * c → f j = f' j) : OwnD w F x (.row c n f') := by
 cases h with
 | nil F a cap _ _ h => exact .nil F a cap c f' h
 | row F g _ cap _ _ U G h1 h2 hg hF hc hs hG hGG => exact .row F g n cap c f' U G h1 h2 hg hF hc (fun j hj => by rw [← hf j hj]; exact hs j hj) hG hGG
def upd (f : Nat → Dat) (j : Nat) (d : Dat) : Nat → Dat := fun i => if i = j then d else f i
theorem upd_same (f : Nat → Dat) (j : Nat) (d : Dat) : upd f j d j = d := by simp [upd]
theorem upd_ne (f : Nat → Dat) {i j : Nat} (d : Dat) (h : i ≠ j) : upd f j d i = f i := by simp [upd, h]
theorem OwnD.step {F : Nat → Prop} {w : World} {g n cap c : Nat} {f : Nat → Dat} (h : OwnD w F (.slice (some ⟨g, 0, none⟩) n cap) (.row c n f)) {j : Nat} (hj : j < n * c) :
  ∃ u K, w.cell? ⟨g, j, none⟩ = some u ∧ w.frozen? ⟨g, j, none⟩ = false ∧ OwnD w K u (f j) ∧ (∀ k, K k → F k ∧ k ≠ g) ∧
   ∀ w' d', OwnD w' K u d' → Turns K w w' → OwnD w' F (.slice (some ⟨g, 0, none⟩) n cap) (.row c n (upd f j d')) := by
 cases h with
 | nil F a cap _ _ h => omega
 | row F g _ cap _ _ U G h1 h2 hg hF hc hs hG hGG =>
  refine ⟨U j, G j, (hc j hj).1, (hc j hj).2, hs j hj, hG j hj, fun w' d' hd ht => ?_⟩
  have hgK : ¬ G j g := fun e => (hG j hj g e).2 rfl
  refine .row F g n cap c _ U G h1 h2 (Nat.lt_of_lt_of_le hg ht.size) hF (fun i hi => by rw [ht.cell hg hgK, ht.frozen hg hgK]; exact hc i hi) (fun i hi => ?_) hG hGG
  by_cases e : i = j
  ·subst e; rw [upd_same]; exact hd
  ·rw [upd_ne _ _ e]; exact (hs i hi).turns ht (fun k hk hk' => hGG i j hi hj e k hk hk')
theorem cell_put {w : World} {g j : Nat} {u v : Value} (h : w.cell? ⟨g, j, none⟩ = some u) : (w.setCell ⟨g, j, none⟩ v).cell? ⟨g, j, none⟩ = some v := by
 have e1 : w.setCell ⟨g, j, none⟩ v = w.setCells g j [v] := rfl
 rw [e1]
 have h0 := World.cell?_setCells_in g [v] j w (fun i hi => by
  obtain rfl : i = 0 := by simpa using hi
  rw [Nat.add_zero, h]; rfl) 0 (by simp)
 simpa using h0
theorem cell_other {w : World} {g j i : Nat} {v : Value} (h : i ≠ j) : (w.setCell ⟨g, j, none⟩ v).cell? ⟨g, i, none⟩ = w.cell? ⟨g, i, none⟩ := by
 have e1 : w.setCell ⟨g, j, none⟩ v = w.setCells g j [v] := rfl
 rw [e1]
 exact World.cell?_setCells_out g _ j w ⟨g, i, none⟩ (fun _ _ => by simp; omega)
theorem frozen_put {w : World} {g j i : Nat} {v : Value} : (w.setCell ⟨g, j, none⟩ v).frozen? ⟨g, i, none⟩ = w.frozen? ⟨g, i, none⟩ := by
 have e1 : w.setCell ⟨g, j, none⟩ v = w.setCells g j [v] := rfl
 rw [e1, World.frozen?_setCells]
theorem OwnD.put {F K : Nat → Prop} {w : World} {g n cap c : Nat} {f : Nat → Dat} {u : Value} {d : Dat} (h : OwnD w F (.slice (some ⟨g, 0, none⟩) n cap) (.row c n f)) {j : Nat} (hj : j < n * c) (hu : OwnD w K u d) (hK : ∀ k, K k → ¬ F k) :
  OwnD (w.setCell ⟨g, j, none⟩ u) (fun k => F k ∨ K k) (.slice (some ⟨g, 0, none⟩) n cap) (.row c n (upd f j d)) := by
 cases h with
 | nil F a cap _ _ h => omega
 | row F g _ cap _ _ U G h1 h2 hg hF hc hs hG hGG =>
  have ht : Turns (fun b => b = g) w (w.setCell ⟨g, j, none⟩ u) := put1_turns w g j u
  refine .row _ g n cap c _ (fun i => if i = j then u else U i) (fun i => if i = j then K else G i) h1 h2 (Nat.lt_of_lt_of_le hg ht.size) (.inl hF) (fun i hi => ?_) (fun i hi => ?_) (fun i hi k hk => ?_) (fun i i' hi hi' hii k hk hk' => ?_)
  ·refine ⟨?_, by rw [frozen_put]; exact (hc i hi).2⟩
   by_cases e : i = j
   ·subst e; simp only [if_true]; exact cell_put (hc i hi).1
   ·simp only [if_neg e]; rw [cell_other e]; exact (hc i hi).1
  ·by_cases e : i = j
   ·subst e; simp only [if_true, upd_same]; exact hu.turns ht (fun k hk e => hK k hk (e ▸ hF))
   ·simp only [if_neg e]; rw [upd_ne _ _ e]; exact (hs i hi).turns ht (fun k hk => (hG i hi k hk).2)
  ·by_cases e : i = j
   ·subst e; simp only [if_true] at hk; exact ⟨.inr hk, fun e => hK k hk (e ▸ hF)⟩
   ·simp only [if_neg e] at hk; exact ⟨.inl (hG i hi k hk).1, (hG i hi k hk).2⟩
  ·by_cases e : i = j
   ·subst e
    simp only [if_true] at hk
    rw [if_neg (Ne.symm hii)] at hk'
    exact hK k hk (hG i' hi' k hk').1
   ·simp only [if_neg e] at hk
    by_cases e' : i' = j
    ·subst e'
     simp only [if_true] at hk'
     exact hK k hk' (hG i hi k hk).1
    ·simp only [if_neg e'] at hk'
     exact hGG i i' hi hi' hii k hk hk'
theorem OwnD.put_val {F : Nat → Prop} {w : World} {g n cap c : Nat} {f : Nat → Dat} (h : OwnD w F (.slice (some ⟨g, 0, none⟩) n cap) (.row c n f)) {j : Nat} (hj : j < n * c) (u : Value) :
  OwnD (w.setCell ⟨g, j, none⟩ u) F (.slice (some ⟨g, 0, none⟩) n cap) (.row c n (upd f j (.val u))) :=
 (h.put hj (OwnD.val (fun _ => False) u) (fun _ => False.elim)).mono (fun _ hk => hk.elim id False.elim)
def flat (c n : Nat) (cs : List Value) : Dat := .row c n (fun j => .val (cs.getD j (.int .i64 0)))
theorem getD_of {cs : List Value} {j : Nat} {u : Value} (h : cs[j]? = some u) : cs.getD j (.int .i64 0) = u := by simp [h]
theorem RowF.own {F : Nat → Prop} {w : World} {x : Value} {n c : Nat} {cs : List Value} (h : RowF F w x n c cs) : OwnD w F x (flat c n cs) := by
 obtain ⟨hl, a, cap, rfl, h1, h2, h⟩ := h
 rcases h with rfl | ⟨g, rfl, hF, hg, hc⟩
 ·exact .nil F a cap c _ h2
 ·refine .row F g n cap c _ (fun j => cs.getD j (.int .i64 0)) (fun _ _ => False) h1 h2 hg hF (fun j hj => ⟨?_, (hc j hj).2⟩) (fun j hj => .val _ _) (fun _ _ _ => False.elim) (fun _ _ _ _ _ _ => False.elim)
  rw [(hc j hj).1, List.getElem?_eq_getElem (by omega), getD_of (List.getElem?_eq_getElem (by omega))]
theorem OwnD.rowF {F : Nat → Prop} {w : World} {x : Value} {n c : Nat} {cs : List Value} (h : OwnD w F x (flat c n cs)) (hl : cs.length = n * c) : RowF F w x n c cs := by
 unfold flat at h
 cases h with
 | nil F a cap _ _ h => exact ⟨hl, a, cap, rfl, Nat.zero_le _, h, .inl rfl⟩
 | row F g _ cap _ _ U G h1 h2 hg hF hc hs hG hGG =>
  refine ⟨hl, _, cap, rfl, h1, h2, .inr ⟨g, rfl, hF, hg, fun j hj => ⟨?_, (hc j hj).2⟩⟩⟩
  have := (hs j hj).isD.val_eq
  rw [(hc j hj).1, this, List.getElem?_eq_getElem (by omega), getD_of (List.getElem?_eq_getElem (by omega))]
def Dat.cnt : Dat → Nat
 | .val _ => 1
 | .row c n f => sumL (fun j => (f j).cnt) (n * c)
def mark1 (v : Value) (z : Int) : Value := match v with
 | .bool _ => .bool (decide (z % 3 = 0))
 | _ => .int .i64 z
def Dat.mark : Dat → Int → Dat
 | .val v, z => .val (mark1 v z)
 | .row c n f, z => .row c n (fun j => (f j).mark (z + (sumL (fun i => (f i).cnt) j : Int)))
theorem sumL_congr {L L' : Nat → Nat} : ∀ {n : Nat}, (∀ j, j < n → L j = L' j) → sumL L n = sumL L' n
 | 0, _ => rfl
 | n + 1, h => by simp only [sumL]; rw [sumL_congr (fun j hj => h j (by omega)), h n (by omega)]
theorem sumL_le {L L' : Nat → Nat} : ∀ {n : Nat}, (∀ j, j < n → L j ≤ L' j) → sumL L n ≤ sumL L' n
 | 0, _ => Nat.le_refl _
 | n + 1, h => by simp only [sumL]; have := sumL_le (n := n) (fun j hj => h j (by omega)); have := h n (by omega); omega
theorem sumL_one : ∀ n : Nat, sumL (fun _ => 1) n = n
 | 0 => rfl
 | n + 1 => by simp only [sumL]; rw [sumL_one n]
theorem flat_cnt (c n : Nat) (cs : List Value) : (flat c n cs).cnt = n * c := by
 simp only [flat, Dat.cnt]
 exact sumL_one _
theorem flat_marked {F : Nat → Prop} {w : World} {x : Value} {c n : Nat} {cs : List Value} {z : Int} (h : OwnD w F x (flat c n (mkCells z (n * c)))) (hi : ∀ u ∈ cs, ∃ i, u = .int .i64 i) : OwnD w F x ((flat c n cs).mark z) := by
 refine OwnD.congr (f := fun j => .val ((mkCells z (n * c)).getD j (.int .i64 0))) h (fun j hj => ?_)
 rw [getD_of (mkCells_get hj)]
 simp only [Dat.mark, Dat.cnt, sumL_one]
 congr 1
 by_cases hj' : j < cs.length
 ·obtain ⟨i, e⟩ := hi _ (List.getElem_mem hj')
  rw [getD_of (List.getElem?_eq_getElem hj'), e]; rfl
 ·rw [show cs.getD j (.int .i64 0) = .int .i64 0 from by simp [List.getElem?_eq_none (Nat.le_of_not_lt hj')]]; rfl
theorem flat_unmarked {F : Nat → Prop} {w : World} {x : Value} {c n : Nat} {cs : List Value} {z : Int} (h : OwnD w F x ((flat c n cs).mark z)) (hi : ∀ u ∈ cs, ∃ i, u = .int .i64 i) : OwnD w F x (flat c n (mkCells z (n * c))) := by
 refine OwnD.congr (f := fun j => ((Dat.val (cs.getD j (.int .i64 0))).mark (z + (sumL (fun i => (Dat.val (cs.getD i (.int .i64 0))).cnt) j : Int)))) h (fun j hj => ?_)
 rw [getD_of (mkCells_get hj)]
 simp only [Dat.mark, Dat.cnt, sumL_one]
 congr 1
 by_cases hj' : j < cs.length
 ·obtain ⟨i, e⟩ := hi _ (List.getElem_mem hj')
  rw [getD_of (List.getElem?_eq_getElem hj'), e]; rfl
 ·rw [show cs.getD j (.int .i64 0) = .int .i64 0 from by simp [List.getElem?_eq_none (Nat.le_of_not_lt hj')]]; rfl
def Dat.wt : Dat → Nat
 | .val _ => 0
 | .row c n f => n + sumL (fun j => (f j).wt) (n * c)
def Dat.thin : Dat → Prop
 | .val _ => True
 | .row c _ f => c ≤ 40 ∧ ∀ j, (f j).thin
theorem sumL_bound {L L' : Nat → Nat} (K : Nat) : ∀ {n : Nat}, (∀ j, j < n → L j ≤ 1 + K * L' j) → sumL L n ≤ n + K * sumL L' n
 | 0, _ => by simp [sumL]
 | n + 1, h => by
  simp only [sumL]
  have h1 := sumL_bound K (n := n) (fun j hj => h j (by omega))
  have h2 := h n (by omega)
  rw [Nat.mul_add]
  omega
theorem Dat.cnt_le1 : ∀ d : Dat, d.thin → d.cnt ≤ 1 + 40 * d.wt ∧ (∀ c n f, d = .row c n f → d.cnt ≤ 40 * d.wt)
 | .val _, _ => ⟨by simp [Dat.cnt], fun _ _ _ e => by cases e⟩
 | .row c n f, h => by
  have h1 : sumL (fun j => (f j).cnt) (n * c) ≤ n * c + 40 * sumL (fun j => (f j).wt) (n * c) := sumL_bound 40 (fun j _ => (Dat.cnt_le1 (f j) (h.2 j)).1)
  have h2 : n * c ≤ n * 40 := Nat.mul_le_mul_left n h.1
  have h3 : (Dat.row c n f).cnt ≤ 40 * (Dat.row c n f).wt := by
   simp only [Dat.cnt, Dat.wt, Nat.mul_add]
   omega
  exact ⟨by omega, fun _ _ _ _ => h3⟩
theorem Dat.cnt_le {c n : Nat} {f : Nat → Dat} (h : (Dat.row c n f).thin) : (Dat.row c n f).cnt ≤ 40 * (Dat.row c n f).wt := (Dat.cnt_le1 _ h).2 c n f rfl
theorem flat_wt (c n : Nat) (cs : List Value) : (flat c n cs).wt = n := by
 simp only [flat, Dat.wt]
 have : ∀ k, sumL (fun _ => 0) k = 0 := fun k => by induction k with
  | zero => rfl
  | succ k ih => simp [sumL, ih]
 rw [this]; rfl
theorem flat_thin {c n : Nat} {cs : List Value} (h : c ≤ 40) : (flat c n cs).thin := ⟨h, fun _ => trivial⟩
def intsD (l : List Int) : Dat := flat 1 l.length (intCells l)
def evsD (l : List Ev) : Dat := flat 7 l.length (cellsL l)
def emsD (l : List Em) : Dat := flat 3 l.length (cellsX l)
theorem IsI.isD {w : World} {x : Value} {l : List Int} (h : IsI w x l) : IsD w x (intsD l) := by
 obtain ⟨a, cap, rfl, h1, h2, h⟩ := h
 refine IsD.of_parts h1 h2 (h.imp (fun e => by rw [e]; rfl) ?_)
 rintro ⟨b, off, rfl, hb, hc⟩
 refine ⟨b, off, rfl, hb, fun j hj => ?_⟩
 have hj' : j < l.length := by omega
 refine ⟨_, hc j hj', ?_⟩
 rw [show (intCells l).getD j (.int .i64 0) = .int .i64 (intAt l j) from getD_of (by simp [intCells, intAt, hj'])]
 exact .val _
theorem IsD.isI {w : World} {x : Value} {l : List Int} (h : IsD w x (intsD l)) : IsI w x l := by
 obtain ⟨a, cap, rfl, h1, h2, h⟩ := IsD.parts (c := 1) (n := l.length) h
 refine ⟨a, cap, rfl, h1, h2, h.imp List.eq_nil_of_length_eq_zero ?_⟩
 rintro ⟨b, off, rfl, hb, hc⟩
 refine ⟨b, off, rfl, hb, fun j hj => ?_⟩
 obtain ⟨u, hu, hd⟩ := hc j (by omega)
 rw [hu, hd.val_eq, show (intCells l).getD j (.int .i64 0) = .int .i64 (intAt l j) from getD_of (by simp [intCells, intAt, hj])]
theorem IsEvs.isD {w : World} {x : Value} {l : List Ev} (h : IsEvs w x l) : IsD w x (evsD l) := by
 obtain ⟨a, cap, rfl, h1, h2, h⟩ := h
 refine IsD.of_parts h1 h2 (h.imp (fun e => by rw [e]; rfl) ?_)
 rintro ⟨b, off, rfl, hb, hc⟩
 refine ⟨b, off, rfl, hb, fun j hj => ?_⟩
 have hi : j / 7 < l.length := by omega
 have hr : j % 7 < 7 := by omega
 have hE := hc (j / 7) hi
 have hg := cellsL_get l (j / 7) (j % 7) hi hr
 rw [show j / 7 * 7 + j % 7 = j from by omega] at hg
 have hall : ∀ r, r < 7 → ∃ u, w.cell? ⟨b, off + j / 7 * 7 + r, none⟩ = some u ∧ (evAt l (j / 7)).cs[r]? = some u := fun r hr => by
  match r, hr with
  | 0, _ => exact ⟨_, hE.f0, rfl⟩
  | 1, _ => exact ⟨_, hE.f1, rfl⟩
  | 2, _ => exact ⟨_, hE.f2, rfl⟩
  | 3, _ => exact ⟨_, hE.f3, rfl⟩
  | 4, _ => exact ⟨_, hE.f4, rfl⟩
  | 5, _ => exact ⟨_, hE.f5, rfl⟩
  | 6, _ => exact ⟨_, hE.f6, rfl⟩
 obtain ⟨u, h3, h4⟩ := hall _ hr
 refine ⟨u, by rw [← h3]; congr 2; omega, ?_⟩
 rw [show (cellsL l).getD j (.int .i64 0) = u from getD_of (hg.trans h4)]
 exact .val _
theorem IsD.isEvs {w : World} {x : Value} {l : List Ev} (h : IsD w x (evsD l)) : IsEvs w x l := by
 obtain ⟨a, cap, rfl, h1, h2, h⟩ := IsD.parts (c := 7) (n := l.length) h
 refine ⟨a, cap, rfl, h1, h2, h.imp List.eq_nil_of_length_eq_zero ?_⟩
 rintro ⟨b, off, rfl, hb, hc⟩
 refine ⟨b, off, rfl, hb, fun i hi => ?_⟩
 have hget : ∀ r, r < 7 → w.cell? ⟨b, off + i * 7 + r, none⟩ = (evAt l i).cs[r]? := fun r hr => by
  obtain ⟨u, hu, hd⟩ := hc (i * 7 + r) (by omega)
  rw [Nat.add_assoc, hu, hd.val_eq]
  have hg := cellsL_get l i r hi hr
  have : r < (evAt l i).cs.length := by simpa [Ev.cs] using hr
  rw [List.getElem?_eq_getElem this] at hg ⊢
  rw [getD_of hg]
 exact ⟨hget 0 (by omega), hget 1 (by omega), hget 2 (by omega), hget 3 (by omega), hget 4 (by omega), hget 5 (by omega), hget 6 (by omega)⟩
theorem IsD.isX {w : World} {x : Value} {l : List Em} (h : IsD w x (emsD l)) : IsX w x l := by
 obtain ⟨a, cap, rfl, h1, h2, h⟩ := IsD.parts (c := 3) (n := l.length) h
 refine ⟨a, cap, rfl, h1, h2, h.imp List.eq_nil_of_length_eq_zero ?_⟩
 rintro ⟨b, off, rfl, hb, hc⟩
 refine ⟨b, off, rfl, hb, fun i hi => ?_⟩
 have hget : ∀ r, r < 3 → w.cell? ⟨b, off + i * 3 + r, none⟩ = (xAt l i).cs[r]? := fun r hr => by
  obtain ⟨u, hu, hd⟩ := hc (i * 3 + r) (by omega)
  rw [Nat.add_assoc, hu, hd.val_eq]
  have hg := cellsX_get l i r hi hr
  have : r < (xAt l i).cs.length := by simpa [Em.cs] using hr
  rw [List.getElem?_eq_getElem this] at hg ⊢
  rw [getD_of hg]
 exact ⟨hget 0 (by omega), hget 1 (by omega), hget 2 (by omega)⟩
end Go.Proofs.YthfhibnnkpbeiaaGreat

/- States: what they hold, how they come in, are held against each other, marked, and found again. -/
namespace Go.Proofs.YthfhibnnkpbeiaaGreat
open Go.RowKit
theorem hidSSt {p : Prop} (h : p) : Hid p := h
structure St where
 r : List Int
 q : Int
 d : Int
def IsS (w : World) (x : Value) (s : St) : Prop := ∃ vr, x = .agg #[vr, .int .i64 s.q, .int .i64 s.d] ∧ IsI w vr s.r
def StF (F : Nat → Prop) (w : World) (x : Value) (s : St) : Prop := ∃ vr, x = .agg #[vr, .int .i64 s.q, .int .i64 s.d] ∧ RowF F w vr s.r.length 1 (intCells s.r)
theorem StF.turns {F S : Nat → Prop} {w w' : World} {x : Value} {s : St} (h : StF F w x s) (ht : Turns S w w') (hS : ∀ k, F k → ¬ S k) : StF F w' x s := by
 obtain ⟨vr, rfl, h⟩ := h
 exact ⟨vr, rfl, h.turns ht hS⟩
theorem StF.mono {F F' : Nat → Prop} {w : World} {x : Value} {s : St} (h : StF F w x s) (hF : ∀ k, F k → F' k) : StF F' w x s := by
 obtain ⟨vr, rfl, h⟩ := h
 exact ⟨vr, rfl, h.mono hF⟩
theorem StF.form {F : Nat → Prop} {w : World} {x : Value} {s : St} (h : StF F w x s) : ∃ a c, x = .agg #[.slice a s.r.length c, .int .i64 s.q, .int .i64 s.d] := by
 obtain ⟨vr, rfl, _, a, c, rfl, _⟩ := h
 exact ⟨a, c, rfl⟩
abbrev put3 (w : World) (R : Nat) (v0 v1 v2 : Value) : World := ((w.setCell ⟨R, 0, none⟩ v0).setCell ⟨R, 1, none⟩ v1).setCell ⟨R, 2, none⟩ v2
theorem Bk.put3 {w : World} {R : Nat} {T : TypeId} {a0 a1 a2 : Value} (h : Bk w R T #[a0, a1, a2]) (v0 v1 v2 : Value) : Bk (put3 w R v0 v1 v2) R T #[v0, v1, v2] :=
 ((h.put 0 v0).put 1 v1).put 2 v2
theorem put3_turns (w : World) (R : Nat) (v0 v1 v2 : Value) : Turns (fun b => b = R) w (put3 w R v0 v1 v2) :=
 ((put1_turns w R 0 v0).trans (put1_turns _ R 1 v1)).trans (put1_turns _ R 2 v2)
set_option maxHeartbeats 2000000 in
theorem eqState_same (x y : Value) (s : St) (w : World) (hs : s.r.length ≤ 1048576) (hx : IsS w x s) (hy : IsS w y s) :
  Calls Tryz.prog 108 #[x, y] w fun e w' => e = .returned (.bool true) ∧ Below w.heap.size w w' := by
 obtain ⟨vr, rfl, h1⟩ := hx
 obtain ⟨ur, rfl, k1⟩ := hy
 obtain ⟨l, q, d⟩ := s
 have HI : Hid (IsI w vr l ∧ IsI w ur l) := ⟨h1, k1⟩
 have HS : Hid (l.length ≤ 4611686018427387904) := (by have : l.length ≤ 1048576 := hs; omega : l.length ≤ 4611686018427387904)
 clear h1 k1 hs
 obtain ⟨W0, hW0⟩ : ∃ W0, (w.alloc (.cells #[vr, .int .i64 q, .int .i64 d] 67)).alloc (.cells #[ur, .int .i64 q, .int .i64 d] 67) = W0 := ⟨_, rfl⟩
 have HB0 : Hid (Below w.heap.size w W0) := by rw [← hW0]; exact ((Below.refl _ w).alloc (Nat.le_refl _) _).alloc (by simp) _
 have HP0 : Hid (Bk W0 w.heap.size 67 #[vr, .int .i64 q, .int .i64 d]) := by rw [← hW0]; exact (Bk.new w _ _).alloc _
 have HQ0 : Hid (Bk W0 (w.heap.size + 1) 67 #[ur, .int .i64 q, .int .i64 d]) := by rw [← hW0]; exact Bk.newAt (by simp) _ _
 have p0 := HP0.out.cell (i := 0) rfl
 have q0 := HQ0.out.cell (i := 0) rfl
 go_enter Tryz.func108, Tryz.ntmps108
 go_wp2_with fail
 clear p0 q0 hW0
 refine (eqI_same _ _ l _ HS.out (HI.out.1.below HB0.out) (HI.out.2.below HB0.out)).mono ?_
 rintro e w1 ⟨rfl, hb⟩
 have HB1 := hidSSt (HB0.out.trans (hb.mono HB0.out.size))
 have p1 := (HP0.out.below hb).cell (i := 1) rfl
 have q1 := (HQ0.out.below hb).cell (i := 1) rfl
 have p2 := (HP0.out.below hb).cell (i := 2) rfl
 have q2 := (HQ0.out.below hb).cell (i := 2) rfl
 clear hb HB0 HP0 HQ0
 go_wp2
 go_ret
 exact ⟨rfl, HB1.out⟩
end Go.Proofs.YthfhibnnkpbeiaaGreat

/- Rows of numbers, events and emits: how much there is, held against each other, copied, marked, found again; each in one form. -/
namespace Go.Proofs.YthfhibnnkpbeiaaGreat
open Go.RowKit
theorem ints_plain (l : List Int) : ∀ u ∈ intCells l, ∃ i, u = .int .i64 i := by
 intro u hu
 simp only [intCells, List.mem_map] at hu
 obtain ⟨i, _, rfl⟩ := hu
 exact ⟨i, rfl⟩
theorem evs_plain : ∀ (l : List Ev), ∀ u ∈ cellsL l, ∃ i, u = .int .i64 i
 | [], u, hu => by cases hu
 | e :: l, u, hu => by
  rcases List.mem_append.1 hu with h | h
  ·simp [Ev.cs] at h
   rcases h with rfl | rfl | rfl | rfl | rfl | rfl | rfl <;> exact ⟨_, rfl⟩
  ·exact evs_plain l u h
theorem ems_plain : ∀ (l : List Em), ∀ u ∈ cellsX l, ∃ i, u = .int .i64 i
 | [], u, hu => by cases hu
 | e :: l, u, hu => by
  rcases List.mem_append.1 hu with h | h
  ·simp [Em.cs] at h
   rcases h with rfl | rfl | rfl <;> exact ⟨_, rfl⟩
  ·exact ems_plain l u h
theorem IsD.len {w : World} {x : Value} {c n : Nat} {f : Nat → Dat} (h : IsD w x (.row c n f)) : ∃ a cap, x = .slice a n cap ∧ n ≤ maxLen := by
 obtain ⟨a, cap, rfl, h1, h2, _⟩ := h.parts
 exact ⟨a, cap, rfl, Nat.le_trans h1 h2⟩
theorem ints_wt (l : List Int) : (intsD l).wt = l.length := flat_wt _ _ _
theorem ints_cnt (l : List Int) : (intsD l).cnt = l.length * 1 := flat_cnt _ _ _
theorem ints_thin (l : List Int) : (intsD l).thin := flat_thin (by omega)
theorem eq_ints (x y : Value) (l : List Int) (w : World) (hl : l.length ≤ 1048576) (hx : IsD w x (intsD l)) (hy : IsD w y (intsD l)) :
  Calls Tryz.prog 12 #[x, y] w fun e w' => e = .returned (.bool true) ∧ Below w.heap.size w w' :=
 eqI_same x y l w (by omega) hx.isI hy.isI
theorem mark_ints {F : Nat → Prop} {x : Value} {l : List Int} {w : World} (z : Int) (hn : l.length ≤ 1048577) (hz0 : 0 ≤ z) (hz1 : z ≤ 1073741824) (h : OwnD w F x (intsD l)) :
  Calls Tryz.prog 14 #[x, .int .i64 z] w fun e w' => e = .returned (.int .i64 (z + ((intsD l).cnt : Int))) ∧ OwnD w' F x ((intsD l).mark z) ∧ Turns F w w' := by
 refine (markIF z hn hz0 hz1 (OwnD.rowF (c := 1) h (by rw [intCells_length, Nat.mul_one]))).mono ?_
 rintro e w' ⟨rfl, hr, ht⟩
 refine ⟨ret_int ?_, flat_marked hr.own (ints_plain l), ht⟩
 rw [ints_cnt]
 omega
theorem held_ints {F : Nat → Prop} {x : Value} {l : List Int} {w : World} (z : Int) (hn : l.length ≤ 1048577) (hz0 : 0 ≤ z) (hz1 : z ≤ 1073741824) (h : OwnD w F x ((intsD l).mark z)) :
  Calls Tryz.prog 47 #[x, .int .i64 z] w fun e w' => e = .returned (.int .i64 (z + ((intsD l).cnt : Int))) ∧ Below w.heap.size w w' := by
 refine (heldIF (F := F) z hn hz0 hz1 (OwnD.rowF (c := 1) (flat_unmarked h (ints_plain l)) (mkCells_length _ _))).mono ?_
 rintro e w' ⟨rfl, rfl⟩
 refine ⟨ret_int ?_, Below.refl _ _⟩
 rw [ints_cnt]
 omega
theorem evs_wt (l : List Ev) : (evsD l).wt = l.length := flat_wt _ _ _
theorem evs_cnt (l : List Ev) : (evsD l).cnt = l.length * 7 := flat_cnt _ _ _
theorem evs_thin (l : List Ev) : (evsD l).thin := flat_thin (by omega)
theorem eq_evs (x y : Value) (l : List Ev) (w : World) (hl : l.length ≤ 1048576) (hx : IsD w x (evsD l)) (hy : IsD w y (evsD l)) :
  Calls Tryz.prog 38 #[x, y] w fun e w' => e = .returned (.bool true) ∧ Below w.heap.size w w' :=
 eqS_same x y l w hl hx.isEvs hy.isEvs
theorem mark_evs {F : Nat → Prop} {x : Value} {l : List Ev} {w : World} (z : Int) (hn : l.length ≤ 1048577) (hz0 : 0 ≤ z) (hz1 : z ≤ 1073741824) (h : OwnD w F x (evsD l)) :
  Calls Tryz.prog 42 #[x, .int .i64 z] w fun e w' => e = .returned (.int .i64 (z + ((evsD l).cnt : Int))) ∧ OwnD w' F x ((evsD l).mark z) ∧ Turns F w w' := by
 refine (markEF z hn hz0 hz1 (OwnD.rowF (c := 7) h (cellsL_length l))).mono ?_
 rintro e w' ⟨rfl, hr, ht⟩
 refine ⟨ret_int ?_, flat_marked hr.own (evs_plain l), ht⟩
 rw [evs_cnt]
 omega
theorem held_evs {F : Nat → Prop} {x : Value} {l : List Ev} {w : World} (z : Int) (hn : l.length ≤ 1048577) (hz0 : 0 ≤ z) (hz1 : z ≤ 1073741824) (h : OwnD w F x ((evsD l).mark z)) :
  Calls Tryz.prog 50 #[x, .int .i64 z] w fun e w' => e = .returned (.int .i64 (z + ((evsD l).cnt : Int))) ∧ Below w.heap.size w w' := by
 refine (heldEF (F := F) z hn hz0 hz1 (OwnD.rowF (c := 7) (flat_unmarked h (evs_plain l)) (mkCells_length _ _))).mono ?_
 rintro e w' ⟨rfl, rfl⟩
 refine ⟨ret_int ?_, Below.refl _ _⟩
 rw [evs_cnt]
 omega
theorem ems_wt (l : List Em) : (emsD l).wt = l.length := flat_wt _ _ _
theorem ems_cnt (l : List Em) : (emsD l).cnt = l.length * 3 := flat_cnt _ _ _
theorem ems_thin (l : List Em) : (emsD l).thin := flat_thin (by omega)
theorem eq_ems (x y : Value) (l : List Em) (w : World) (hl : l.length ≤ 1048576) (hx : IsD w x (emsD l)) (hy : IsD w y (emsD l)) :
  Calls Tryz.prog 39 #[x, y] w fun e w' => e = .returned (.bool true) ∧ Below w.heap.size w w' :=
 eqX_same x y l w hl hx.isX hy.isX
theorem mark_ems {F : Nat → Prop} {x : Value} {l : List Em} {w : World} (z : Int) (hn : l.length ≤ 1048577) (hz0 : 0 ≤ z) (hz1 : z ≤ 1073741824) (h : OwnD w F x (emsD l)) :
  Calls Tryz.prog 45 #[x, .int .i64 z] w fun e w' => e = .returned (.int .i64 (z + ((emsD l).cnt : Int))) ∧ OwnD w' F x ((emsD l).mark z) ∧ Turns F w w' := by
 refine (markXF z hn hz0 hz1 (OwnD.rowF (c := 3) h (cellsX_length l))).mono ?_
 rintro e w' ⟨rfl, hr, ht⟩
 refine ⟨ret_int ?_, flat_marked hr.own (ems_plain l), ht⟩
 rw [ems_cnt]
 omega
theorem held_ems {F : Nat → Prop} {x : Value} {l : List Em} {w : World} (z : Int) (hn : l.length ≤ 1048577) (hz0 : 0 ≤ z) (hz1 : z ≤ 1073741824) (h : OwnD w F x ((emsD l).mark z)) :
  Calls Tryz.prog 51 #[x, .int .i64 z] w fun e w' => e = .returned (.int .i64 (z + ((emsD l).cnt : Int))) ∧ Below w.heap.size w w' := by
 refine (heldXF (F := F) z hn hz0 hz1 (OwnD.rowF (c := 3) (flat_unmarked h (ems_plain l)) (mkCells_length _ _))).mono ?_
 rintro e w' ⟨rfl, rfl⟩
 refine ⟨ret_int ?_, Below.refl _ _⟩
 rw [ems_cnt]
 omega
end Go.Proofs.YthfhibnnkpbeiaaGreat

