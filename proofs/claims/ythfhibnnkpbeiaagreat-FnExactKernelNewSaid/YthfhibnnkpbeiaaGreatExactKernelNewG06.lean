/- MLaw, EEm, Find, OwnE, Quiet, SSt, SOk -/
import Derived.Test.YthfhibnnkpbeiaaGreatExactKernelNewG05
import Derived.Test.YthfhibnnkpbeiaaGreatExactKernelNewG02
import Derived.Deep.RegionLaw
import Derived.Test.YthfhibnnkpbeiaaGreatExactKernelNewG01
import Derived.Laws.OwnMore
import Derived.WalkSmall
import Derived.Laws.AppendOwnNone
import Derived.Deep.QuietTactic
import Derived.BigQuiet
/- szModel, eqModel, markModel, heldModel. -/
namespace Go.Proofs.YthfhibnnkpbeiaaGreat
open Go.RowKit
theorem MdF.form {F : Nat → Prop} {w : World} {y : Value} {m : Md} (h : MdF F w y m) : ∃ ai ci ah ch ae ce, y = .agg #[.int .i64 m.n, .int .i64 m.s, .slice ai m.i.length ci, .slice ah m.h.length ch, .slice ae m.e.length ce, .int .i64 m.z] := by
 obtain ⟨A, B, C, vi, vh, vs, rfl, ⟨_, a1, c1, rfl, _⟩, ⟨U, F0, G, ⟨_, a2, c2, rfl, _⟩, _⟩, ⟨_, a3, c3, rfl, _⟩, _⟩ := h
 exact ⟨a1, c1, a2, c2, a3, c3, rfl⟩
set_option maxHeartbeats 2000000 in
theorem szModel_any (x : Value) (m : Md) (w : World) (h : IsM w x m) :
  Calls Tryz.prog 5 #[x, .int .i64 1048576] w fun e w' => (∃ r, e = .returned (.int .i64 r) ∧ (r = -1 ∨ (0 ≤ r ∧ SmallM m))) ∧ Below w.heap.size w w' := by
 obtain ⟨vi, vh, vs, rfl, h1, h2, h3⟩ := h
 obtain ⟨n, s, i, hh, ev, z⟩ := m
 have HH : Hid (IsH w vh hh) := h2
 obtain ⟨a1, c1, rfl, hi1, hi2, _⟩ := h1
 obtain ⟨a3, c3, rfl, he1, he2, _⟩ := h3
 have HI : Hid (i.length ≤ maxLen) := Nat.le_trans hi1 hi2
 have HE : Hid (ev.length ≤ maxLen) := Nat.le_trans he1 he2
 clear h2 hi1 hi2 he1 he2
 obtain ⟨W0, hW0⟩ : ∃ W0, w.alloc (.cells #[.int .i64 n, .int .i64 s, .slice a1 i.length c1, vh, .slice a3 ev.length c3, .int .i64 z] 26) = W0 := ⟨_, rfl⟩
 have HB0 : Hid (Below w.heap.size w W0) := by rw [← hW0]; exact (Below.refl _ w).alloc (Nat.le_refl _) _
 have HP0 : Bk W0 w.heap.size 26 #[.int .i64 n, .int .i64 s, .slice a1 i.length c1, vh, .slice a3 ev.length c3, .int .i64 z] := by rw [← hW0]; exact Bk.new w _ _
 have p2 := HP0.cell (i := 2) rfl
 have p3 := HP0.cell (i := 3) rfl
 have p4 := HP0.cell (i := 4) rfl
 clear HP0
 have go : ∀ q : Int, q = szN i.length 1048576 → q = -1 ∨ (0 ≤ q ∧ q ≤ 1048576 ∧ i.length ≤ 1048576) := by
  intro q hq
  unfold szN at hq
  split at hq <;> omega
 go_enter Tryz.func5, Tryz.ntmps5
 go_wp2_with fail
 refine (szI_any _ _ _ _ _ HI.out (by omega) (by omega)).mono ?_
 rintro e w' ⟨rfl, hw⟩
 have hw' := hw.symm
 clear hw
 subst hw'
 clear hW0
 generalize hq : szN i.length 1048576 = q
 rcases go q hq.symm with rfl | ⟨q0, q1, q2⟩
 ·clear go hq
  go_wp2
  go_ret
  exact ⟨⟨_, rfl, .inl rfl⟩, HB0.out⟩
 ·have HQ : Hid (i.length ≤ 1048576) := q2
  have q3 : ¬ (q < 0) := by omega
  clear go hq q2
  go_wp2_with fail
  refine (szH_any _ hh _ _ (HH.out.below HB0.out) q0 q1).mono ?_
  rintro e w' ⟨⟨r, rfl, hr⟩, hw⟩
  have hw' := hw.symm
  clear hw
  subst hw'
  rcases hr with rfl | ⟨r0, r1, r2, r3, r4⟩
  ·go_wp2
   go_ret
   exact ⟨⟨_, rfl, .inl rfl⟩, HB0.out⟩
  ·have r5 : ¬ (r < 0) := by omega
   have r6 : r ≤ 1048576 := by omega
   have HR : Hid ((hh.length : Int) ≤ 1048576 ∧ (∀ i, (hAt hh i).length ≤ 1048576) ∧ sumL (lens hh) hh.length ≤ 1048576) := ⟨r2, r3, r4⟩
   clear r1 r2 r3 r4
   go_wp2_with fail
   refine (szE_any _ _ _ _ _ HE.out r0 r6).mono ?_
   rintro e w' ⟨rfl, hw⟩
   have hw' := hw.symm
   clear hw
   subst hw'
   generalize hq : szN ev.length r = t
   have ht : t = -1 ∨ (0 ≤ t ∧ ev.length ≤ 1048576) := by
    unfold szN at hq
    split at hq <;> omega
   clear hq
   rcases ht with rfl | ⟨t0, t1⟩
   ·go_wp2
    go_ret
    exact ⟨⟨_, rfl, .inl rfl⟩, HB0.out⟩
   ·have t2 : ¬ (t < 0) := by omega
    go_wp2
    go_ret
    exact ⟨⟨_, rfl, .inr ⟨t0, HQ.out, by have := HR.out.1; show hh.length ≤ 1048576; omega, HR.out.2.1, HR.out.2.2, t1⟩⟩, HB0.out⟩
set_option maxHeartbeats 2000000 in
theorem eqModel_same (x y : Value) (m : Md) (w : World) (hs : SmallM m) (hx : IsM w x m) (hy : IsM w y m) :
  Calls Tryz.prog 11 #[x, y] w fun e w' => e = .returned (.bool true) ∧ Below w.heap.size w w' := by
 obtain ⟨vi, vh, vs, rfl, h1, h2, h3⟩ := hx
 obtain ⟨ui, uh, us, rfl, k1, k2, k3⟩ := hy
 obtain ⟨n, s, i, hh, ev, z⟩ := m
 have HI : Hid (IsI w vi i ∧ IsI w ui i) := ⟨h1, k1⟩
 have HH : Hid (IsH w vh hh ∧ IsH w uh hh) := ⟨h2, k2⟩
 have HE : Hid (IsEvs w vs ev ∧ IsEvs w us ev) := ⟨h3, k3⟩
 have HS : Hid (SmallM ⟨n, s, i, hh, ev, z⟩) := hs
 clear h1 h2 h3 k1 k2 k3 hs
 obtain ⟨W0, hW0⟩ : ∃ W0, (w.alloc (.cells #[.int .i64 n, .int .i64 s, vi, vh, vs, .int .i64 z] 31)).alloc (.cells #[.int .i64 n, .int .i64 s, ui, uh, us, .int .i64 z] 31) = W0 := ⟨_, rfl⟩
 have HB0 : Hid (Below w.heap.size w W0) := by rw [← hW0]; exact ((Below.refl _ w).alloc (Nat.le_refl _) _).alloc (by simp) _
 have HP0 : Hid (Bk W0 w.heap.size 31 #[.int .i64 n, .int .i64 s, vi, vh, vs, .int .i64 z]) := by rw [← hW0]; exact (Bk.new w _ _).alloc _
 have HQ0 : Hid (Bk W0 (w.heap.size + 1) 31 #[.int .i64 n, .int .i64 s, ui, uh, us, .int .i64 z]) := by rw [← hW0]; exact Bk.newAt (by simp) _ _
 have p0 := HP0.out.cell (i := 0) rfl
 have p1 := HP0.out.cell (i := 1) rfl
 have p2 := HP0.out.cell (i := 2) rfl
 have q0 := HQ0.out.cell (i := 0) rfl
 have q1 := HQ0.out.cell (i := 1) rfl
 have q2 := HQ0.out.cell (i := 2) rfl
 go_enter Tryz.func11, Tryz.ntmps11
 go_wp2_with fail
 clear p0 p1 p2 q0 q1 q2 hW0
 refine (eqI_same _ _ i _ (by have : i.length ≤ 1048576 := HS.out.i; omega) (HI.out.1.below HB0.out) (HI.out.2.below HB0.out)).mono ?_
 rintro e w1 ⟨rfl, hb⟩
 have HB1 : Hid (Below w.heap.size w w1) := HB0.out.trans (hb.mono HB0.out.size)
 have HP1 : Hid (Bk w1 w.heap.size 31 #[.int .i64 n, .int .i64 s, vi, vh, vs, .int .i64 z]) := HP0.out.below hb
 have HQ1 : Hid (Bk w1 (w.heap.size + 1) 31 #[.int .i64 n, .int .i64 s, ui, uh, us, .int .i64 z]) := HQ0.out.below hb
 have p3 := HP1.out.cell (i := 3) rfl
 have q3 := HQ1.out.cell (i := 3) rfl
 clear hb HB0 HP0 HQ0
 go_wp2_with fail
 clear p3 q3
 refine (eqH_same _ _ hh _ HS.out.h HS.out.r (HH.out.1.below HB1.out) (HH.out.2.below HB1.out)).mono ?_
 rintro e w2 ⟨rfl, hb⟩
 have HB2 : Hid (Below w.heap.size w w2) := HB1.out.trans (hb.mono HB1.out.size)
 have HP2 : Hid (Bk w2 w.heap.size 31 #[.int .i64 n, .int .i64 s, vi, vh, vs, .int .i64 z]) := HP1.out.below hb
 have HQ2 : Hid (Bk w2 (w.heap.size + 1) 31 #[.int .i64 n, .int .i64 s, ui, uh, us, .int .i64 z]) := HQ1.out.below hb
 have p4 := HP2.out.cell (i := 4) rfl
 have q4 := HQ2.out.cell (i := 4) rfl
 clear hb HB1 HP1 HQ1
 go_wp2_with fail
 clear p4 q4
 refine (eqS_same _ _ ev _ HS.out.e (HE.out.1.below HB2.out) (HE.out.2.below HB2.out)).mono ?_
 rintro e w3 ⟨rfl, hb⟩
 have HB3 : Hid (Below w.heap.size w w3) := HB2.out.trans (hb.mono HB2.out.size)
 have p5 := (HP2.out.below hb).cell (i := 5) rfl
 have q5 := (HQ2.out.below hb).cell (i := 5) rfl
 clear hb HB2 HP2 HQ2
 go_wp2
 go_ret
 exact ⟨rfl, HB3.out⟩
def HeldM (F : Nat → Prop) (w : World) (x : Value) (m : Md) : Prop :=
 ∃ (A B C : Nat → Prop) (vi vh vs : Value) (U : Nat → Value), x = .agg #[.int .i64 m.n, .int .i64 m.s, vi, vh, vs, .int .i64 m.z] ∧ RowF A w vi m.i.length 1 (mkCells 1 (m.i.length * 1)) ∧
  RowsF B w vh m.h.length U (lens m.h) (mkRows (1 + (m.i.length : Int)) (lens m.h)) ∧ RowF C w vs m.e.length 7 (mkCells (1 + (m.i.length : Int) + 4 * (sumL (lens m.h) m.h.length : Int)) (m.e.length * 7)) ∧
  (∀ k, A k → F k ∧ ¬ B k ∧ ¬ C k) ∧ (∀ k, B k → F k ∧ ¬ C k) ∧ ∀ k, C k → F k
theorem HeldM.turns {F S : Nat → Prop} {w w' : World} {x : Value} {m : Md} (h : HeldM F w x m) (ht : Turns S w w') (hS : ∀ k, F k → ¬ S k) : HeldM F w' x m := by
 obtain ⟨A, B, C, vi, vh, vs, U, rfl, h1, h2, h3, h4, h5, h6⟩ := h
 exact ⟨A, B, C, vi, vh, vs, U, rfl, h1.turns ht (fun k hk => hS k (h4 k hk).1), h2.turns ht (fun k hk => hS k (h5 k hk).1), h3.turns ht (fun k hk => hS k (h6 k hk)), h4, h5, h6⟩
theorem HeldM.below {F : Nat → Prop} {w w' : World} {x : Value} {m : Md} (h : HeldM F w x m) (hb : Below w.heap.size w w') : HeldM F w' x m :=
 h.turns (S := fun _ => False) (Turns.of_below hb) (fun _ _ => id)
def markNo (m : Md) : Int := 1 + (m.i.length : Int) + 4 * (sumL (lens m.h) m.h.length : Int) + 7 * (m.e.length : Int)
theorem markNo_pos (m : Md) : 1 ≤ markNo m := by unfold markNo; omega
set_option maxHeartbeats 2000000 in
theorem markModel_any {F : Nat → Prop} {x : Value} {m : Md} {w : World} (hs : SmallM m) (h : MdF F w x m) (hF : ∀ k, F k → k < w.heap.size) :
  Calls Tryz.prog 13 #[x, .int .i64 1] w fun e w' => e = .returned (.int .i64 (markNo m)) ∧ HeldM F w' x m ∧ Turns F w w' := by
 obtain ⟨A, B, C, vi, vh, vs, rfl, h1, ⟨U, h2⟩, h3, h4, h5, h6⟩ := h
 obtain ⟨n, s, i, hh, ev, z⟩ := m
 have HI : Hid (RowF A w vi i.length 1 (intCells i)) := h1
 have HH : Hid (RowsF B w vh hh.length U (lens hh) (fun i => cellsO (hAt hh i))) := h2
 have HE : Hid (RowF C w vs ev.length 7 (cellsL ev)) := h3
 have HS : Hid (SmallM ⟨n, s, i, hh, ev, z⟩) := hs
 have HF : Hid ((∀ k, F k → k < w.heap.size) ∧ (∀ k, A k → F k ∧ ¬ B k ∧ ¬ C k) ∧ (∀ k, B k → F k ∧ ¬ C k) ∧ ∀ k, C k → F k) := ⟨hF, h4, h5, h6⟩
 clear h1 h2 h3 h4 h5 h6 hs hF
 obtain ⟨W0, hW0⟩ : ∃ W0, w.alloc (.cells #[.int .i64 n, .int .i64 s, vi, vh, vs, .int .i64 z] 31) = W0 := ⟨_, rfl⟩
 have HB0 : Hid (Below w.heap.size w W0) := by rw [← hW0]; exact (Below.refl _ w).alloc (Nat.le_refl _) _
 have HP0 : Hid (Bk W0 w.heap.size 31 #[.int .i64 n, .int .i64 s, vi, vh, vs, .int .i64 z]) := by rw [← hW0]; exact Bk.new w _ _
 have p2 := HP0.out.cell (i := 2) rfl
 have hi : i.length ≤ 1048576 := HS.out.i
 have hh1 : sumL (lens hh) hh.length ≤ 1048576 := HS.out.t
 have hh2 : hh.length ≤ 1048576 := HS.out.h
 have he : ev.length ≤ 1048576 := HS.out.e
 go_enter Tryz.func13, Tryz.ntmps13
 go_wp2_with fail
 clear p2 hW0
 refine (markIF (F := A) 1 (by omega) (by omega) (by omega) (HI.out.below HB0.out)).mono ?_
 rintro e w1 ⟨rfl, hr, ht⟩
 have HT1 : Hid (Turns F W0 w1) := ht.mono (fun k hk => (HF.out.2.1 k hk).1)
 have HI1 : Hid (RowF A w1 vi i.length 1 (mkCells 1 (i.length * 1))) := hr
 have HH1 : Hid (RowsF B w1 vh hh.length U (lens hh) (fun i => cellsO (hAt hh i))) := (HH.out.below HB0.out).turns ht (fun k hk ha => (HF.out.2.1 k ha).2.1 hk)
 have HE1 : Hid (RowF C w1 vs ev.length 7 (cellsL ev)) := (HE.out.below HB0.out).turns ht (fun k hk ha => (HF.out.2.1 k ha).2.2 hk)
 have HP1 : Hid (Bk w1 w.heap.size 31 #[.int .i64 n, .int .i64 s, vi, vh, vs, .int .i64 z]) := HP0.out.turns HT1.out (fun hk => by have := HF.out.1 _ hk; omega)
 have p3 := HP1.out.cell (i := 3) rfl
 clear hr ht HI HH HE HP0
 go_wp2_with fail
 clear p3
 refine (markHF (F := B) (1 + (i.length : Int)) (by omega) (by omega) (by omega) (by omega) HH1.out).mono ?_
 rintro e w2 ⟨rfl, hr, ht⟩
 have HT2 : Hid (Turns F W0 w2) := HT1.out.trans (ht.mono (fun k hk => (HF.out.2.2.1 k hk).1))
 have HI2 : Hid (RowF A w2 vi i.length 1 (mkCells 1 (i.length * 1))) := HI1.out.turns ht (fun k hk hb => (HF.out.2.1 k hk).2.1 hb)
 have HH2 : Hid (RowsF B w2 vh hh.length U (lens hh) (mkRows (1 + (i.length : Int)) (lens hh))) := hr
 have HE2 : Hid (RowF C w2 vs ev.length 7 (cellsL ev)) := HE1.out.turns ht (fun k hk hb => (HF.out.2.2.1 k hb).2 hk)
 have HP2 : Hid (Bk w2 w.heap.size 31 #[.int .i64 n, .int .i64 s, vi, vh, vs, .int .i64 z]) := HP1.out.turns ht (fun hk => by have := HF.out.1 _ (HF.out.2.2.1 _ hk).1; omega)
 have p4 := HP2.out.cell (i := 4) rfl
 clear hr ht HI1 HH1 HE1 HP1 HT1
 go_wp2_with fail
 clear p4
 refine (markEF (F := C) (1 + (i.length : Int) + 4 * (sumL (lens hh) hh.length : Int)) (by omega) (by omega) (by omega) HE2.out).mono ?_
 rintro e w3 ⟨rfl, hr, ht⟩
 have HT3 : Hid (Turns F W0 w3) := HT2.out.trans (ht.mono (fun k hk => HF.out.2.2.2 k hk))
 have HI3 : Hid (RowF A w3 vi i.length 1 (mkCells 1 (i.length * 1))) := HI2.out.turns ht (fun k hk hc => (HF.out.2.1 k hk).2.2 hc)
 have HH3 : Hid (RowsF B w3 vh hh.length U (lens hh) (mkRows (1 + (i.length : Int)) (lens hh))) := HH2.out.turns ht (fun k hk hc => (HF.out.2.2.1 k hk).2 hc)
 have HE3 : Hid (RowF C w3 vs ev.length 7 (mkCells (1 + (i.length : Int) + 4 * (sumL (lens hh) hh.length : Int)) (ev.length * 7))) := hr
 clear hr ht HI2 HH2 HE2 HP2 HT2
 go_wp2
 go_ret
 exact ⟨rfl, ⟨A, B, C, vi, vh, vs, U, rfl, HI3.out, HH3.out, HE3.out, HF.out.2⟩, (Turns.of_below HB0.out).trans HT3.out⟩
set_option maxHeartbeats 2000000 in
theorem heldModel_any {F : Nat → Prop} {x : Value} {m : Md} {w : World} (hs : SmallM m) (h : HeldM F w x m) :
  Calls Tryz.prog 46 #[x, .int .i64 1] w fun e w' => e = .returned (.int .i64 (markNo m)) ∧ Below w.heap.size w w' := by
 obtain ⟨A, B, C, vi, vh, vs, U, rfl, h1, h2, h3, h4, h5, h6⟩ := h
 obtain ⟨n, s, i, hh, ev, z⟩ := m
 have HI : Hid (RowF A w vi i.length 1 (mkCells 1 (i.length * 1))) := h1
 have HH : Hid (RowsF B w vh hh.length U (lens hh) (mkRows (1 + (i.length : Int)) (lens hh))) := h2
 have HE : Hid (RowF C w vs ev.length 7 (mkCells (1 + (i.length : Int) + 4 * (sumL (lens hh) hh.length : Int)) (ev.length * 7))) := h3
 have HS : Hid (SmallM ⟨n, s, i, hh, ev, z⟩) := hs
 clear h1 h2 h3 h4 h5 h6 hs
 obtain ⟨W0, hW0⟩ : ∃ W0, w.alloc (.cells #[.int .i64 n, .int .i64 s, vi, vh, vs, .int .i64 z] 31) = W0 := ⟨_, rfl⟩
 have HB0 : Hid (Below w.heap.size w W0) := by rw [← hW0]; exact (Below.refl _ w).alloc (Nat.le_refl _) _
 have HP0 : Bk W0 w.heap.size 31 #[.int .i64 n, .int .i64 s, vi, vh, vs, .int .i64 z] := by rw [← hW0]; exact Bk.new w _ _
 have p2 := HP0.cell (i := 2) rfl
 have p3 := HP0.cell (i := 3) rfl
 have p4 := HP0.cell (i := 4) rfl
 clear HP0
 have hi : i.length ≤ 1048576 := HS.out.i
 have hh1 : sumL (lens hh) hh.length ≤ 1048576 := HS.out.t
 have hh2 : hh.length ≤ 1048576 := HS.out.h
 have he : ev.length ≤ 1048576 := HS.out.e
 have n1 : ¬ (1 + (i.length : Int) < 0) := by omega
 have n2 : ¬ (1 + (i.length : Int) + 4 * (sumL (lens hh) hh.length : Int) < 0) := by omega
 have n3 : ¬ (1 + (i.length : Int) + 4 * (sumL (lens hh) hh.length : Int) + 7 * (ev.length : Int) < 0) := by omega
 go_enter Tryz.func46, Tryz.ntmps46
 go_wp2_with fail
 clear hW0
 refine (heldIF (F := A) 1 (by omega) (by omega) (by omega) (HI.out.below HB0.out)).mono ?_
 rintro e w' ⟨rfl, hw⟩
 have hw' := hw.symm
 clear hw
 subst hw'
 go_wp2_with fail
 refine (heldHF (F := B) (1 + (i.length : Int)) (by omega) (by omega) (by omega) (by omega) (HH.out.below HB0.out)).mono ?_
 rintro e w' ⟨rfl, hw⟩
 have hw' := hw.symm
 clear hw
 subst hw'
 go_wp2_with fail
 refine (heldEF (F := C) (1 + (i.length : Int) + 4 * (sumL (lens hh) hh.length : Int)) (by omega) (by omega) (by omega) (HE.out.below HB0.out)).mono ?_
 rintro e w' ⟨rfl, hw⟩
 have hw' := hw.symm
 clear hw
 subst hw'
 go_wp2
 go_ret
 exact ⟨rfl, HB0.out⟩
end Go.Proofs.YthfhibnnkpbeiaaGreat

/- Emits as plain values, and as cells. -/
namespace Go.Proofs.YthfhibnnkpbeiaaGreat
open Go.RowKit
structure Em where
 t : Int
 l : Int
 v : Int
def xAt (l : List Em) (i : Nat) : Em := l.getD i ⟨0, 0, 0⟩
def Em.cs (e : Em) : List Value := [.int .i64 e.t, .int .i64 e.l, .int .i64 e.v]
def cellsX : List Em → List Value
 | [] => []
 | e :: l => e.cs ++ cellsX l
theorem cellsX_length : ∀ l : List Em, (cellsX l).length = l.length * 3
 | [] => rfl
 | e :: l => by simp [cellsX, cellsX_length l, Em.cs]; omega
theorem xAt_cons_succ (e : Em) (l : List Em) (i : Nat) : xAt (e :: l) (i + 1) = xAt l i := by simp [xAt]
theorem cellsX_get : ∀ (l : List Em) (i r : Nat), i < l.length → r < 3 → (cellsX l)[i * 3 + r]? = (xAt l i).cs[r]?
 | [], _, _, h, _ => by simp at h
 | e :: l, 0, r, _, hr => by
  have : r < e.cs.length := by simpa [Em.cs] using hr
  simp only [cellsX, Nat.zero_mul, Nat.zero_add]
  rw [List.getElem?_append_left this]
  simp [xAt]
 | e :: l, i + 1, r, h, hr => by
  have h1 := cellsX_get l i r (by simpa using h) hr
  have : e.cs.length ≤ (i + 1) * 3 + r := by simp [Em.cs]; omega
  simp only [cellsX]
  rw [List.getElem?_append_right this, xAt_cons_succ, ← h1]
  congr 1
  simp [Em.cs]; omega
end Go.Proofs.YthfhibnnkpbeiaaGreat

/- The specification's l1find. -/
namespace Go.Proofs.YthfhibnnkpbeiaaGreat
open Go.RowKit
theorem step_append_own {P : Program} {ops : Array Oper} {o : Oper} {a : Act} {w : World} {K : Act → World → Prop} {Q : Exit → Act → World → Prop} {E : Prop}
  (hg : o.guard = none) (s x : Operand) (t : TypeId) (hop : o.op = Op.call { callee := Callee.builtin Builtin.append, args := #[s, x], argTypes := #[t, t] })
  (base : Nat) (e : TypeId) (i : TypeInfo) (z : Value) (size bytes : Nat) (h1 : P.underlying t = some (.slice e)) (h2 : P.info? e = some i) (h3 : i.zero = some z) (h4 : i.size = size) (h5 : i.bytes = bytes) (h6 : z.cells.size = size) (h7 : 0 < size)
  (v : Value) (n : Nat) (xs : List Value) (hs : a.eval s = v) (hown : w.ownsRow base e size v n xs)
  (ad : Addr) (m c : Nat) (news : List Value) (hx : a.eval x = .slice (some ad) m c) (hn : news.length = m * size) (hc : ∀ j u, news[j]? = some u → w.cell? (ad.add j) = some u) (h1c : ∀ u ∈ news, u.oneCell' = true)
  (b1 : n + m ≤ maxLen) (b2 : (n + m) * bytes ≤ 140737488355328) (hbase : base ≤ w.heap.size)
  (hK : ∀ v' w', w'.ownsRow base e size v' (n + m) (xs ++ news) → w.grownBy w' v.ownBlock → K (a.put o.dst v') w') :
  if Region.wanted o (yielded ops a.tmps) = true then Oper.wp P o a w K Q else E := by
 have hw : Region.wanted o (yielded ops a.tmps) = true := by simp [Region.wanted, hg]
 rw [if_pos hw]
 exact wp_append_own w s x t hop base e i z size bytes h1 h2 h3 h4 h5 h6 h7 v n xs hs hown ad m c news hx hn hc h1c b1 b2 hbase (fun v' w' r1 r2 _ => hK v' w' r1 r2)
theorem row_ge {w : World} {B : Nat} {e : TypeId} {size n : Nat} {v : Value} {xs : List Value} (h : w.ownsRow B e size v n xs) {r : Nat} (hr : v.ownBlock = some r) : B ≤ r := by
 obtain ⟨_, ⟨rfl, _⟩ | ⟨g, cap, cur, rfl, hg, _⟩⟩ := h
 ·cases hr
 ·cases hr; exact hg
end Go.Proofs.YthfhibnnkpbeiaaGreat

/- Lists that are read, nil or not; the copies of both sides, as rows of one's own. -/
namespace Go.Proofs.YthfhibnnkpbeiaaGreat
open Go.RowKit
def OwnR (B : Nat) (w : World) (x : Value) (l : List Ev) : Prop := w.ownsRow B 99 7 x l.length (cellsL l)
theorem OwnR.mono {B B' : Nat} {w : World} {x : Value} {l : List Ev} (h : OwnR B w x l) (hB : B' ≤ B) : OwnR B' w x l := by
 obtain ⟨h0, ⟨e, h1⟩ | ⟨g, cap, cur, e, hg, h1⟩⟩ := h
 ·exact ⟨h0, .inl ⟨e, h1⟩⟩
 ·exact ⟨h0, .inr ⟨g, cap, cur, e, Nat.le_trans hB hg, h1⟩⟩
end Go.Proofs.YthfhibnnkpbeiaaGreat

/- A region that draws its order, whose operations only read and whose callees lay blocks of their own, is walked once, in the order of the text. -/
namespace Go.Proofs.YthfhibnnkpbeiaaGreat
open Go.RowKit
structure Beyond (W : World) where
 w : World
 h : Below W.heap.size W w
theorem Beyond.cell {W : World} (p : Beyond W) {b o : Nat} {v : Value} (hb : b < W.heap.size) (h : W.cell? ⟨b, o, none⟩ = some v) : p.w.cell? ⟨b, o, none⟩ = some v := (p.h.cell (p := ⟨b, o, none⟩) hb).trans h
theorem Beyond.of {P : Program} {f : FuncId} {args : Array Value} {W : World} {p : Beyond W} {v : Value} (h : Calls P f args p.w fun e w' => e = .returned v ∧ Below p.w.heap.size p.w w') :
  Calls P f args p.w fun e w'' => e = .returned v ∧ ∃ p' : Beyond W, w'' = p'.w :=
 h.mono fun _ w'' ⟨he, hb⟩ => ⟨he, ⟨w'', p.h.trans (hb.mono p.h.size)⟩, rfl⟩
theorem wp_region_beyond {P : Program} {id : Nat} {Q : Exit → Act → World → Prop} {a : Act} {W : World} {l : List Oper} (hm : P.follows .mixedOrders = true) (hB : Region.lexB .any l.toArray = true)
  (h : wpQuiet P l.toArray (fun w' => ∃ p : Beyond W, w' = p.w) (fun a' => ∀ w', (∃ p : Beyond W, w' = p.w) → Q .normal a' w') l a) : (Code.region id l.toArray true).wp P Q a W :=
 wp_region_quiet (C := fun w' => ∃ p : Beyond W, w' = p.w) hm hB ⟨⟨_, (Below.refl _ W).drew⟩, rfl⟩ (by simpa using h)
theorem EvAt.beyond {W : World} {b o : Nat} {t s q d k v g : Int} (h : EvAt W b o t s q d k v g) (hb : b < W.heap.size) :
  (∀ p : Beyond W, p.w.cell? ⟨b, o, none⟩ = some (.int .i64 t)) ∧ (∀ p : Beyond W, p.w.cell? ⟨b, o + 1, none⟩ = some (.int .i64 s)) ∧ (∀ p : Beyond W, p.w.cell? ⟨b, o + 2, none⟩ = some (.int .i64 q)) ∧ (∀ p : Beyond W, p.w.cell? ⟨b, o + 3, none⟩ = some (.int .i64 d)) ∧
  (∀ p : Beyond W, p.w.cell? ⟨b, o + 4, none⟩ = some (.int .i64 k)) ∧ (∀ p : Beyond W, p.w.cell? ⟨b, o + 5, none⟩ = some (.int .i64 v)) ∧ (∀ p : Beyond W, p.w.cell? ⟨b, o + 6, none⟩ = some (.int .i64 g)) :=
 ⟨fun p => p.cell hb h.f0, fun p => p.cell hb h.f1, fun p => p.cell hb h.f2, fun p => p.cell hb h.f3, fun p => p.cell hb h.f4, fun p => p.cell hb h.f5, fun p => p.cell hb h.f6⟩
end Go.Proofs.YthfhibnnkpbeiaaGreat

/- States: what they hold, how they come in, are held against each other, marked, and found again. -/
namespace Go.Proofs.YthfhibnnkpbeiaaGreat
open Go.RowKit
structure St where
 r : List Int
 q : Int
 d : Int
def IsS (w : World) (x : Value) (s : St) : Prop := ∃ vr, x = .agg #[vr, .int .i64 s.q, .int .i64 s.d] ∧ IsI w vr s.r
def StF (F : Nat → Prop) (w : World) (x : Value) (s : St) : Prop := ∃ vr, x = .agg #[vr, .int .i64 s.q, .int .i64 s.d] ∧ RowF F w vr s.r.length 1 (intCells s.r)
theorem StF.turns {F S : Nat → Prop} {w w' : World} {x : Value} {s : St} (h : StF F w x s) (ht : Turns S w w') (hS : ∀ k, F k → ¬ S k) : StF F w' x s := by
 obtain ⟨vr, rfl, h⟩ := h
 exact ⟨vr, rfl, h.turns ht hS⟩
theorem StF.mono {F F' : Nat → Prop} {w : World} {x : Value} {s : St} (h : StF F w x s) (hF : ∀ k, F k → F' k) : StF F' w x s := by
 obtain ⟨vr, rfl, h⟩ := h
 exact ⟨vr, rfl, h.mono hF⟩
theorem StF.form {F : Nat → Prop} {w : World} {x : Value} {s : St} (h : StF F w x s) : ∃ a c, x = .agg #[.slice a s.r.length c, .int .i64 s.q, .int .i64 s.d] := by
 obtain ⟨vr, rfl, _, a, c, rfl, _⟩ := h
 exact ⟨a, c, rfl⟩
abbrev put3 (w : World) (R : Nat) (v0 v1 v2 : Value) : World := ((w.setCell ⟨R, 0, none⟩ v0).setCell ⟨R, 1, none⟩ v1).setCell ⟨R, 2, none⟩ v2
theorem Bk.put3 {w : World} {R : Nat} {T : TypeId} {a0 a1 a2 : Value} (h : Bk w R T #[a0, a1, a2]) (v0 v1 v2 : Value) : Bk (put3 w R v0 v1 v2) R T #[v0, v1, v2] :=
 ((h.put 0 v0).put 1 v1).put 2 v2
theorem put3_turns (w : World) (R : Nat) (v0 v1 v2 : Value) : Turns (fun b => b = R) w (put3 w R v0 v1 v2) :=
 ((put1_turns w R 0 v0).trans (put1_turns _ R 1 v1)).trans (put1_turns _ R 2 v2)
set_option maxHeartbeats 2000000 in
theorem eqState_same (x y : Value) (s : St) (w : World) (hs : s.r.length ≤ 1048576) (hx : IsS w x s) (hy : IsS w y s) :
  Calls Tryz.prog 108 #[x, y] w fun e w' => e = .returned (.bool true) ∧ Below w.heap.size w w' := by
 obtain ⟨vr, rfl, h1⟩ := hx
 obtain ⟨ur, rfl, k1⟩ := hy
 obtain ⟨l, q, d⟩ := s
 have HI : Hid (IsI w vr l ∧ IsI w ur l) := ⟨h1, k1⟩
 have HS : Hid (l.length ≤ 4611686018427387904) := (by have : l.length ≤ 1048576 := hs; omega : l.length ≤ 4611686018427387904)
 clear h1 k1 hs
 obtain ⟨W0, hW0⟩ : ∃ W0, (w.alloc (.cells #[vr, .int .i64 q, .int .i64 d] 67)).alloc (.cells #[ur, .int .i64 q, .int .i64 d] 67) = W0 := ⟨_, rfl⟩
 have HB0 : Hid (Below w.heap.size w W0) := by rw [← hW0]; exact ((Below.refl _ w).alloc (Nat.le_refl _) _).alloc (by simp) _
 have HP0 : Hid (Bk W0 w.heap.size 67 #[vr, .int .i64 q, .int .i64 d]) := by rw [← hW0]; exact (Bk.new w _ _).alloc _
 have HQ0 : Hid (Bk W0 (w.heap.size + 1) 67 #[ur, .int .i64 q, .int .i64 d]) := by rw [← hW0]; exact Bk.newAt (by simp) _ _
 have p0 := HP0.out.cell (i := 0) rfl
 have q0 := HQ0.out.cell (i := 0) rfl
 go_enter Tryz.func108, Tryz.ntmps108
 go_wp2_with fail
 clear p0 q0 hW0
 refine (eqI_same _ _ l _ HS.out (HI.out.1.below HB0.out) (HI.out.2.below HB0.out)).mono ?_
 rintro e w1 ⟨rfl, hb⟩
 have HB1 : Hid (Below w.heap.size w w1) := HB0.out.trans (hb.mono HB0.out.size)
 have p1 := (HP0.out.below hb).cell (i := 1) rfl
 have q1 := (HQ0.out.below hb).cell (i := 1) rfl
 have p2 := (HP0.out.below hb).cell (i := 2) rfl
 have q2 := (HQ0.out.below hb).cell (i := 2) rfl
 clear hb HB0 HP0 HQ0
 go_wp2
 go_ret
 exact ⟨rfl, HB1.out⟩
end Go.Proofs.YthfhibnnkpbeiaaGreat

/- Both StateOk. -/
namespace Go.Proofs.YthfhibnnkpbeiaaGreat
open Go.RowKit
def inB (x : Int) : Bool := decide (0 ≤ x ∧ x ≤ 999)
end Go.Proofs.YthfhibnnkpbeiaaGreat

