/- The methods of a part's turn: what each op does. -/
import Derived.Test.YtbljfphdghfkfaaGreatDoorSequencesCardG10
import Derived.Test.YtbljfphdghfkfaaGreatDoorSequencesCardLVOf
import Derived.Test.YtbljfphdghfkfaaGreatDoorSequencesCardLQuiet
import Derived.Deep.RegionHeld3
import Derived.BigRegion
namespace Go.Proofs.YtbljfphdghfkfaaGreatDoor
open Go.RowKit
abbrev preT (n s z : Int) (vi vh vs : Value) (c0 c1 c2 c3 : Int) (e : Ev) : List Value :=
 [.int .i64 n, .int .i64 s, vi, vh, vs, .int .i64 z, .int .i64 c0, .int .i64 c1, .int .i64 c2, .int .i64 c3, .int .i64 e.t, .int .i64 e.s, .int .i64 e.q, .int .i64 e.d, .int .i64 e.k, .int .i64 e.v, .int .i64 e.g]
def Keeps (w w' : World) : Prop := ∀ (K : Nat) (T : TypeId) (vs : Array Value), T ≠ 3 ∧ T ≠ 53 ∧ T ≠ 108 ∧ T ≠ 175 → Bk w K T vs → Bk w' K T vs
theorem Keeps.trans {a b c : World} (h : Keeps a b) (h' : Keeps b c) : Keeps a c := fun K T vs hT hb => h' K T vs hT (h K T vs hT hb)
theorem keeps_alloc (w : World) (o : Obj) : Keeps w (w.alloc o) := fun _ _ _ _ hb => hb.alloc o
theorem keeps_drew (w : World) : Keeps w w.drew := fun _ _ _ _ hb => hb
theorem keeps_below {w w' : World} (h : Below w.heap.size w w') : Keeps w w' := fun _ _ _ _ hb => hb.below h
theorem Eff.keepG {B P : Nat} {w : World} {T : TypeId} {pre : List Value} {t : Tn} {k : Int} {g cap : Nat} {us ux : Value} (h : Eff B w P T pre t k g cap us ux) (i : Nat) (u : Value) : Keeps w (w.setCell ⟨g, i, none⟩ u) :=
 fun _ _ _ hT hb => hb.grown (setCell_grown w g i u) (hb.off h.r (Ne.symm hT.1))
theorem Eff.keepP {B P : Nat} {w : World} {pre : List Value} {t : Tn} {k : Int} {g cap : Nat} {us ux : Value} (h : Eff B w P 175 pre t k g cap us ux) (i : Nat) (u : Value) : Keeps w (w.setCell ⟨P, i, none⟩ u) :=
 fun K T vs hT hb => hb.grown (setCell_grown w P i u) (fun e => by
  cases e
  have h1 : w.heap[P]? = some (.cells vs T) := hb
  have h2 := h.blk
  unfold Bk at h2
  rw [h1] at h2
  cases h2
  exact hT.2.2.2 rfl)
theorem keeps_sent {B n : Nat} {w w1 : World} {us : Value} {cs : List Value} (h : w.ownsRow B 53 7 us n cs) (hg : w.grownBy w1 us.ownBlock) : Keeps w w1 := fun _ _ _ hT hb => hb.grown hg (hb.off h (Ne.symm hT.2.1))
theorem keeps_told {B n : Nat} {w w1 : World} {us : Value} {cs : List Value} (h : w.ownsRow B 108 3 us n cs) (hg : w.grownBy w1 us.ownBlock) : Keeps w w1 := fun _ _ _ hT hb => hb.grown hg (hb.off h (Ne.symm hT.2.2.1))
def MPost (B P : Nat) (w : World) (pre : List Value) (t' : Tn) (k' pass : Int) (r : Ending) (w' : World) : Prop :=
 r = .returned (.int .i64 pass) ∧ (∃ g cap us ux, Eff B w' P 175 pre t' k' g cap us ux) ∧ Below B w w' ∧ Keeps w w'
def vecAt (c0 c1 c2 c3 : Int) (i : Int) : Int := if i = 0 then c0 else if i = 1 then c1 else if i = 2 then c2 else c3
theorem Eff.ne {B P : Nat} {w : World} {T : TypeId} {pre : List Value} {t : Tn} {k : Int} {g cap : Nat} {us ux : Value} (h : Eff B w P T pre t k g cap us ux) : P ≠ g := fun e => by
 have := h.blk.off h.r h.ty.1
 subst e
 exact this rfl
theorem Eff.le {B P : Nat} {w : World} {T : TypeId} {pre : List Value} {t : Tn} {k : Int} {g cap : Nat} {us ux : Value} (h : Eff B w P T pre t k g cap us ux) : B ≤ w.heap.size ∧ P < w.heap.size := ⟨by have := h.lo; have := h.blk.lt; omega, h.blk.lt⟩
set_option maxRecDepth 100000 in
set_option maxHeartbeats 2000000 in
theorem raise_any (B P : Nat) (n s z : Int) (vi vh vs : Value) (c0 c1 c2 c3 : Int) (e : Ev) (t : Tn) (k : Int) (g cap : Nat) (us ux : Value) (i : Nat) (hi : i ≤ 1) (y : Int) (hr0 : 0 ≤ t.reg i) (hr1 : t.reg i ≤ 999) (hy0 : 0 ≤ y) (hy1 : y ≤ 999) (w : World) (h : Eff B w P 175 (preT n s z vi vh vs c0 c1 c2 c3 e) t k g cap us ux) :
  Calls Tryz.prog 117 #[.pointer (some ⟨P, 0, none⟩), .int .i64 i, .int .i64 y] w fun r w' => r = .returned (.tuple #[]) ∧ w' = w.setCell ⟨g, i, none⟩ (.int .i64 ((t.reg i + y) % 1000)) := by
 have q17 : w.cell? ⟨P, 17, none⟩ = some (vReg g cap) := h.blk.cell (i := 17) rfl
 have r0 := h.reg i hi
 have rf := h.free i
 have hm : Int.tmod (t.reg i + y) 1000 = (t.reg i + y) % 1000 := Int.tmod_eq_emod_of_nonneg (by omega)
 generalize t.reg i = x at *
 have hi2 : (i : Int) < 2 := by omega
 clear h
 go_enter Tryz.func117, Tryz.ntmps117
 go_wp2
 go_end0
 exact ⟨rfl, rfl⟩
theorem far_eq {w w1 : World} {b o g i : Nat} {u x : Value} (hw : w1 = w.setCell ⟨g, i, none⟩ u) (hne : b ≠ g) (h : w.cell? ⟨b, o, none⟩ = some x) : w1.cell? ⟨b, o, none⟩ = some x := by
 subst hw
 exact (World.cell?_of_block (Below.heap_setCell _ _ _ _ hne)).trans h
set_option maxRecDepth 100000 in
set_option maxHeartbeats 4000000 in
theorem add_any (B P : Nat) (n s z : Int) (vi vh vs : Value) (c0 c1 c2 c3 : Int) (e : Ev) (t : Tn) (k : Int) (g cap : Nat) (us ux : Value) (o : O) (j : Nat) (gt : GoodT t j) (ha0 : 0 ≤ o.a) (ha1 : o.a ≤ 1) (hb0 : 0 ≤ o.b) (hb1 : o.b ≤ 999) (w : World) (h : Eff B w P 175 (preT n s z vi vh vs c0 c1 c2 c3 e) t k g cap us ux) :
  Calls Tryz.prog 106 #[.pointer (some ⟨P, 0, none⟩), .agg #[.int .i64 o.c, .int .i64 o.a, .int .i64 o.b, .int .i64 o.k]] w (MPost B P w (preT n s z vi vh vs c0 c1 c2 c3 e) (t.put o.a ((t.reg o.a + o.b) % 1000)) k 0) := by
 obtain ⟨hBw, hPw⟩ := h.le
 obtain ⟨hgB, hgw⟩ := h.glo
 have hne := h.ne
 obtain ⟨W0, hW0⟩ : ∃ W0, w.alloc (.cells #[.int .i64 o.c, .int .i64 o.a, .int .i64 o.b, .int .i64 o.k] 39) = W0 := ⟨_, rfl⟩
 have HE : Hid (Eff B W0 P 175 (preT n s z vi vh vs c0 c1 c2 c3 e) t k g cap us ux) := hW0 ▸ h.alloc _
 have HB : Hid (Below B w W0) := hW0 ▸ (Below.refl B w).alloc hBw _
 have HK : Hid (Keeps w W0) := hW0 ▸ keeps_alloc w _
 have HP : Hid (Bk W0 w.heap.size 39 #[.int .i64 o.c, .int .i64 o.a, .int .i64 o.b, .int .i64 o.k]) := hW0 ▸ Bk.new w _ _
 have hsz : w.heap.size < W0.heap.size := HP.out.lt
 have p1 : W0.cell? ⟨w.heap.size, 1, none⟩ = some (.int .i64 o.a) := HP.out.cell (i := 1) rfl
 have p2 : W0.cell? ⟨w.heap.size, 2, none⟩ = some (.int .i64 o.b) := HP.out.cell (i := 2) rfl
 have p3 : W0.cell? ⟨w.heap.size, 3, none⟩ = some (.int .i64 o.k) := HP.out.cell (i := 3) rfl
 clear h
 obtain ⟨i, hi⟩ : ∃ i : Nat, o.a = (i : Int) := ⟨(o.a).toNat, by omega⟩
 have hi1 : i ≤ 1 := by omega
 obtain ⟨hr0, hr1⟩ := gt.reg (i : Int)
 rw [hi] at p1 hW0 ⊢
 go_enter Tryz.func106, Tryz.ntmps106
 go_wp2_with fail
 clear hW0 p1 p2 p3
 refine (raise_any B P n s z vi vh vs c0 c1 c2 c3 e t k g cap us ux i hi1 o.b hr0 hr1 hb0 hb1 W0 HE.out).mono ?_
 rintro r w1 ⟨rfl, rfl⟩
 go_wp2
 go_ret
 exact ⟨rfl, ⟨g, cap, us, ux, HE.out.put i hi1 _⟩, HB.out.setCell (p := ⟨g, i, none⟩) hgB _, HK.out.trans (HE.out.keepG i _)⟩
set_option maxRecDepth 100000 in
set_option maxHeartbeats 4000000 in
theorem take_any (B P : Nat) (n s z : Int) (vi vh vs : Value) (c0 c1 c2 c3 : Int) (e : Ev) (t : Tn) (k : Int) (g cap : Nat) (us ux : Value) (o : O) (j : Nat) (gt : GoodT t j) (ha0 : 0 ≤ o.a) (ha1 : o.a ≤ 1) (hv0 : 0 ≤ e.v) (hv1 : e.v ≤ 999) (w : World) (h : Eff B w P 175 (preT n s z vi vh vs c0 c1 c2 c3 e) t k g cap us ux) :
  Calls Tryz.prog 107 #[.pointer (some ⟨P, 0, none⟩), .agg #[.int .i64 o.c, .int .i64 o.a, .int .i64 o.b, .int .i64 o.k]] w (MPost B P w (preT n s z vi vh vs c0 c1 c2 c3 e) (t.put o.a ((t.reg o.a + e.v) % 1000)) k 0) := by
 obtain ⟨hBw, hPw⟩ := h.le
 obtain ⟨hgB, hgw⟩ := h.glo
 have hne := h.ne
 obtain ⟨W0, hW0⟩ : ∃ W0, w.alloc (.cells #[.int .i64 o.c, .int .i64 o.a, .int .i64 o.b, .int .i64 o.k] 39) = W0 := ⟨_, rfl⟩
 have HE : Hid (Eff B W0 P 175 (preT n s z vi vh vs c0 c1 c2 c3 e) t k g cap us ux) := hW0 ▸ h.alloc _
 have HB : Hid (Below B w W0) := hW0 ▸ (Below.refl B w).alloc hBw _
 have HK : Hid (Keeps w W0) := hW0 ▸ keeps_alloc w _
 have HP : Hid (Bk W0 w.heap.size 39 #[.int .i64 o.c, .int .i64 o.a, .int .i64 o.b, .int .i64 o.k]) := hW0 ▸ Bk.new w _ _
 have hsz : w.heap.size < W0.heap.size := HP.out.lt
 have p1 : W0.cell? ⟨w.heap.size, 1, none⟩ = some (.int .i64 o.a) := HP.out.cell (i := 1) rfl
 have p2 : W0.cell? ⟨w.heap.size, 2, none⟩ = some (.int .i64 o.b) := HP.out.cell (i := 2) rfl
 have p3 : W0.cell? ⟨w.heap.size, 3, none⟩ = some (.int .i64 o.k) := HP.out.cell (i := 3) rfl
 clear h
 obtain ⟨i, hi⟩ : ∃ i : Nat, o.a = (i : Int) := ⟨(o.a).toNat, by omega⟩
 have hi1 : i ≤ 1 := by omega
 obtain ⟨hr0, hr1⟩ := gt.reg (i : Int)
 have q15 : W0.cell? ⟨P, 15, none⟩ = some (.int .i64 e.v) := HE.out.blk.cell (i := 15) rfl
 rw [hi] at p1 hW0 ⊢
 have hng : w.heap.size ≠ g := by omega
 have p1d : W0.drew.cell? ⟨w.heap.size, 1, none⟩ = some (.int .i64 i) := p1
 have q15d : W0.drew.cell? ⟨P, 15, none⟩ = some (.int .i64 e.v) := q15
 clear p2 p3
 go_enter Tryz.func107, Tryz.ntmps107
 go_wp2
 clear hW0
 go_region_held3 (fun W => W.cell? ⟨w.heap.size, 1, none⟩ = some (.int .i64 i) ∧ W.cell? ⟨P, 15, none⟩ = some (.int .i64 e.v)) (first | exact ⟨p1d, q15d⟩ | exact ⟨k1, k15⟩)
  (first | (go_at_call 117; refine (raise_any B P n s z vi vh vs c0 c1 c2 c3 e t k g cap us ux i hi1 e.v hr0 hr1 hv0 hv1 _ HE.out.drew).mono ?_; rintro r w1 ⟨rfl, hw1⟩; have k1 := far_eq hw1 hng p1d; have k15 := far_eq hw1 hne q15d; have HW : Hid (w1 = W0.drew.setCell ⟨g, i, none⟩ (.int .i64 ((t.reg i + e.v) % 1000))) := hw1; clear hw1))
 go_wp2
 go_ret
 rw [HW.out]
 exact ⟨rfl, ⟨g, cap, us, ux, HE.out.drew.put i hi1 _⟩, HB.out.drew.setCell (p := ⟨g, i, none⟩) hgB _, HK.out.trans (HE.out.drew.keepG i _)⟩
set_option maxRecDepth 100000 in
set_option maxHeartbeats 4000000 in
theorem skip_any (B P : Nat) (n s z : Int) (vi vh vs : Value) (c0 c1 c2 c3 : Int) (e : Ev) (t : Tn) (k : Int) (g cap : Nat) (us ux : Value) (o : O) (j : Nat) (gt : GoodT t j) (ha0 : 0 ≤ o.a) (ha1 : o.a ≤ 1) (w : World) (h : Eff B w P 175 (preT n s z vi vh vs c0 c1 c2 c3 e) t k g cap us ux) :
  Calls Tryz.prog 109 #[.pointer (some ⟨P, 0, none⟩), .agg #[.int .i64 o.c, .int .i64 o.a, .int .i64 o.b, .int .i64 o.k]] w (MPost B P w (preT n s z vi vh vs c0 c1 c2 c3 e) t k (if t.reg o.a < o.b then o.k else 0)) := by
 obtain ⟨hBw, hPw⟩ := h.le
 obtain ⟨hgB, hgw⟩ := h.glo
 have hne := h.ne
 obtain ⟨W0, hW0⟩ : ∃ W0, w.alloc (.cells #[.int .i64 o.c, .int .i64 o.a, .int .i64 o.b, .int .i64 o.k] 39) = W0 := ⟨_, rfl⟩
 have HE : Hid (Eff B W0 P 175 (preT n s z vi vh vs c0 c1 c2 c3 e) t k g cap us ux) := hW0 ▸ h.alloc _
 have HB : Hid (Below B w W0) := hW0 ▸ (Below.refl B w).alloc hBw _
 have HK : Hid (Keeps w W0) := hW0 ▸ keeps_alloc w _
 have HP : Hid (Bk W0 w.heap.size 39 #[.int .i64 o.c, .int .i64 o.a, .int .i64 o.b, .int .i64 o.k]) := hW0 ▸ Bk.new w _ _
 have hsz : w.heap.size < W0.heap.size := HP.out.lt
 have p1 : W0.cell? ⟨w.heap.size, 1, none⟩ = some (.int .i64 o.a) := HP.out.cell (i := 1) rfl
 have p2 : W0.cell? ⟨w.heap.size, 2, none⟩ = some (.int .i64 o.b) := HP.out.cell (i := 2) rfl
 have p3 : W0.cell? ⟨w.heap.size, 3, none⟩ = some (.int .i64 o.k) := HP.out.cell (i := 3) rfl
 clear h
 obtain ⟨i, hi⟩ : ∃ i : Nat, o.a = (i : Int) := ⟨(o.a).toNat, by omega⟩
 have hi1 : i ≤ 1 := by omega
 obtain ⟨hr0, hr1⟩ := gt.reg (i : Int)
 have q17 : W0.cell? ⟨P, 17, none⟩ = some (vReg g cap) := HE.out.blk.cell (i := 17) rfl
 have r0 := HE.out.reg i hi1
 rw [hi] at p1 hW0 ⊢
 have hi2 : (i : Int) < 2 := by omega
 generalize t.reg i = x at *
 clear hi
 by_cases hx : x < o.b
 ·rw [if_pos hx]
  go_enter Tryz.func109, Tryz.ntmps109
  go_wp2
  clear hW0
  go_region
  all_goals go_wp2
  all_goals
   go_ret
   exact ⟨rfl, ⟨g, cap, us, ux, HE.out.drew⟩, HB.out.drew, HK.out⟩
 ·have hx2 : decide (x < o.b) = false := decide_eq_false hx
  rw [if_neg hx]
  go_enter Tryz.func109, Tryz.ntmps109
  go_wp2
  clear hW0
  go_region
  all_goals go_wp2
  all_goals
   go_ret
   exact ⟨rfl, ⟨g, cap, us, ux, HE.out.drew⟩, HB.out.drew, HK.out⟩
set_option maxRecDepth 100000 in
set_option maxHeartbeats 4000000 in
theorem ask_wait (B P : Nat) (n s z : Int) (vi vh vs : Value) (c0 c1 c2 c3 : Int) (e : Ev) (t : Tn) (k : Int) (g cap : Nat) (us ux : Value) (o : O) (ha0 : 0 ≤ o.a) (ha1 : o.a ≤ 3) (hb0 : 0 ≤ o.b) (hb1 : o.b ≤ 1) (hx : vecAt c0 c1 c2 c3 o.a = -1) (w : World) (h : Eff B w P 175 (preT n s z vi vh vs c0 c1 c2 c3 e) t k g cap us ux) :
  Calls Tryz.prog 110 #[.pointer (some ⟨P, 0, none⟩), .agg #[.int .i64 o.c, .int .i64 o.a, .int .i64 o.b, .int .i64 o.k]] w (MPost B P w (preT n s z vi vh vs c0 c1 c2 c3 e) t o.a (-1)) := by
 obtain ⟨hBw, hPw⟩ := h.le
 obtain ⟨hgB, hgw⟩ := h.glo
 have hne := h.ne
 obtain ⟨W0, hW0⟩ : ∃ W0, w.alloc (.cells #[.int .i64 o.c, .int .i64 o.a, .int .i64 o.b, .int .i64 o.k] 39) = W0 := ⟨_, rfl⟩
 have HE : Hid (Eff B W0 P 175 (preT n s z vi vh vs c0 c1 c2 c3 e) t k g cap us ux) := hW0 ▸ h.alloc _
 have HB : Hid (Below B w W0) := hW0 ▸ (Below.refl B w).alloc hBw _
 have HK : Hid (Keeps w W0) := hW0 ▸ keeps_alloc w _
 have HP : Hid (Bk W0 w.heap.size 39 #[.int .i64 o.c, .int .i64 o.a, .int .i64 o.b, .int .i64 o.k]) := hW0 ▸ Bk.new w _ _
 have hsz : w.heap.size < W0.heap.size := HP.out.lt
 have p1 : W0.cell? ⟨w.heap.size, 1, none⟩ = some (.int .i64 o.a) := HP.out.cell (i := 1) rfl
 have p2 : W0.cell? ⟨w.heap.size, 2, none⟩ = some (.int .i64 o.b) := HP.out.cell (i := 2) rfl
 have p3 : W0.cell? ⟨w.heap.size, 3, none⟩ = some (.int .i64 o.k) := HP.out.cell (i := 3) rfl
 clear h
 obtain ⟨a, ha⟩ : ∃ a : Nat, o.a = (a : Int) := ⟨o.a.toNat, by omega⟩
 obtain ⟨i, hi⟩ : ∃ i : Nat, o.b = (i : Int) := ⟨o.b.toNat, by omega⟩
 have ha3 : a ≤ 3 := by omega
 have hi1 : i ≤ 1 := by omega
 have hi2 : (i : Int) < 2 := by omega
 have ha4 : (a : Int) < 4 := by omega
 have v0 : W0.cell? ⟨P, 6 + a, none⟩ = some (.int .i64 (vecAt c0 c1 c2 c3 a)) := by
  match a, ha3 with
  | 0, _ => exact HE.out.blk.cell (i := 6) rfl
  | 1, _ => exact HE.out.blk.cell (i := 7) rfl
  | 2, _ => exact HE.out.blk.cell (i := 8) rfl
  | 3, _ => exact HE.out.blk.cell (i := 9) rfl
 have q17 : W0.cell? ⟨P, 17, none⟩ = some (vReg g cap) := HE.out.blk.cell (i := 17) rfl
 have q22 : W0.cell? ⟨P, 22, none⟩ = some (.int .i64 k) := HE.out.blk.cell (i := 22) rfl
 have bf := HE.out.blk.free
 have r0 := HE.out.reg i hi1
 have rf := HE.out.free i
 rw [ha] at p1 hx ⊢
 rw [hi] at p2 ⊢
 rw [ha, hi] at hW0
 clear ha hi ha0 ha1 hb0 hb1 HP
 generalize vecAt c0 c1 c2 c3 a = x at hx v0 ⊢
 go_enter Tryz.func110, Tryz.ntmps110
 go_wp2
 clear hW0
 go_region
 all_goals go_wp2
 all_goals
  go_ret
  exact ⟨rfl, ⟨g, cap, us, ux, HE.out.drew.putK _⟩, HB.out.drew.setCell (p := ⟨P, 22, none⟩) HE.out.lo _, HK.out.trans (HE.out.drew.keepP 22 _)⟩
set_option maxRecDepth 100000 in
set_option maxHeartbeats 4000000 in
theorem ask_made (B P : Nat) (n s z : Int) (vi vh vs : Value) (c0 c1 c2 c3 : Int) (e : Ev) (t : Tn) (k : Int) (g cap : Nat) (us ux : Value) (o : O) (ha0 : 0 ≤ o.a) (ha1 : o.a ≤ 3) (hb0 : 0 ≤ o.b) (hb1 : o.b ≤ 1) (hx : ¬ vecAt c0 c1 c2 c3 o.a = -1) (w : World) (h : Eff B w P 175 (preT n s z vi vh vs c0 c1 c2 c3 e) t k g cap us ux) :
  Calls Tryz.prog 110 #[.pointer (some ⟨P, 0, none⟩), .agg #[.int .i64 o.c, .int .i64 o.a, .int .i64 o.b, .int .i64 o.k]] w (MPost B P w (preT n s z vi vh vs c0 c1 c2 c3 e) (t.put o.b (vecAt c0 c1 c2 c3 o.a)) k 0) := by
 obtain ⟨hBw, hPw⟩ := h.le
 obtain ⟨hgB, hgw⟩ := h.glo
 have hne := h.ne
 obtain ⟨W0, hW0⟩ : ∃ W0, w.alloc (.cells #[.int .i64 o.c, .int .i64 o.a, .int .i64 o.b, .int .i64 o.k] 39) = W0 := ⟨_, rfl⟩
 have HE : Hid (Eff B W0 P 175 (preT n s z vi vh vs c0 c1 c2 c3 e) t k g cap us ux) := hW0 ▸ h.alloc _
 have HB : Hid (Below B w W0) := hW0 ▸ (Below.refl B w).alloc hBw _
 have HK : Hid (Keeps w W0) := hW0 ▸ keeps_alloc w _
 have HP : Hid (Bk W0 w.heap.size 39 #[.int .i64 o.c, .int .i64 o.a, .int .i64 o.b, .int .i64 o.k]) := hW0 ▸ Bk.new w _ _
 have hsz : w.heap.size < W0.heap.size := HP.out.lt
 have p1 : W0.cell? ⟨w.heap.size, 1, none⟩ = some (.int .i64 o.a) := HP.out.cell (i := 1) rfl
 have p2 : W0.cell? ⟨w.heap.size, 2, none⟩ = some (.int .i64 o.b) := HP.out.cell (i := 2) rfl
 have p3 : W0.cell? ⟨w.heap.size, 3, none⟩ = some (.int .i64 o.k) := HP.out.cell (i := 3) rfl
 clear h
 obtain ⟨a, ha⟩ : ∃ a : Nat, o.a = (a : Int) := ⟨o.a.toNat, by omega⟩
 obtain ⟨i, hi⟩ : ∃ i : Nat, o.b = (i : Int) := ⟨o.b.toNat, by omega⟩
 have ha3 : a ≤ 3 := by omega
 have hi1 : i ≤ 1 := by omega
 have hi2 : (i : Int) < 2 := by omega
 have ha4 : (a : Int) < 4 := by omega
 have v0 : W0.cell? ⟨P, 6 + a, none⟩ = some (.int .i64 (vecAt c0 c1 c2 c3 a)) := by
  match a, ha3 with
  | 0, _ => exact HE.out.blk.cell (i := 6) rfl
  | 1, _ => exact HE.out.blk.cell (i := 7) rfl
  | 2, _ => exact HE.out.blk.cell (i := 8) rfl
  | 3, _ => exact HE.out.blk.cell (i := 9) rfl
 have q17 : W0.cell? ⟨P, 17, none⟩ = some (vReg g cap) := HE.out.blk.cell (i := 17) rfl
 have q22 : W0.cell? ⟨P, 22, none⟩ = some (.int .i64 k) := HE.out.blk.cell (i := 22) rfl
 have bf := HE.out.blk.free
 have r0 := HE.out.reg i hi1
 have rf := HE.out.free i
 rw [ha] at p1 hx ⊢
 rw [hi] at p2 ⊢
 rw [ha, hi] at hW0
 clear ha hi ha0 ha1 hb0 hb1 HP
 generalize vecAt c0 c1 c2 c3 a = x at hx v0 ⊢
 go_enter Tryz.func110, Tryz.ntmps110
 go_wp2
 clear hW0
 go_region
 all_goals go_wp2
 all_goals go_region
 all_goals go_wp2
 all_goals
  go_ret
  exact ⟨rfl, ⟨g, cap, us, ux, HE.out.drew.drew.put i hi1 _⟩, HB.out.drew.drew.setCell (p := ⟨g, i, none⟩) hgB _, HK.out.trans (HE.out.drew.drew.keepG i _)⟩
end Go.Proofs.YtbljfphdghfkfaaGreatDoor
