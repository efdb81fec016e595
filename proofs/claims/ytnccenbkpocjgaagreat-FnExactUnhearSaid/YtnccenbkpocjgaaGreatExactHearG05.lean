/- SSt, SOk, XEm -/
import Derived.Test.YtnccenbkpocjgaaGreatExactHearG04
import Derived.Deep.RegionHeld3
/- States: what they hold, how they come in, are held against each other, marked, and found again. -/
namespace Go.Proofs.YtnccenbkpocjgaaGreat
open Go.RowKit
structure St where
 r : List Int
 q : Int
 d : Int
def IsS (w : World) (x : Value) (s : St) : Prop := ∃ vr, x = .agg #[vr, .int .i64 s.q, .int .i64 s.d] ∧ IsI w vr s.r
theorem IsS.below {w w' : World} {x : Value} {s : St} (h : IsS w x s) (hb : Below w.heap.size w w') : IsS w' x s := by
 obtain ⟨vr, rfl, h⟩ := h
 exact ⟨vr, rfl, h.below hb⟩
def StF (F : Nat → Prop) (w : World) (x : Value) (s : St) : Prop := ∃ vr, x = .agg #[vr, .int .i64 s.q, .int .i64 s.d] ∧ RowF F w vr s.r.length 1 (intCells s.r)
abbrev put3 (w : World) (R : Nat) (v0 v1 v2 : Value) : World := ((w.setCell ⟨R, 0, none⟩ v0).setCell ⟨R, 1, none⟩ v1).setCell ⟨R, 2, none⟩ v2
theorem Bk.put3 {w : World} {R : Nat} {T : TypeId} {a0 a1 a2 : Value} (h : Bk w R T #[a0, a1, a2]) (v0 v1 v2 : Value) : Bk (put3 w R v0 v1 v2) R T #[v0, v1, v2] :=
 ((h.put 0 v0).put 1 v1).put 2 v2
theorem put3_turns (w : World) (R : Nat) (v0 v1 v2 : Value) : Turns (fun b => b = R) w (put3 w R v0 v1 v2) :=
 ((put1_turns w R 0 v0).trans (put1_turns _ R 1 v1)).trans (put1_turns _ R 2 v2)
set_option maxHeartbeats 2000000 in
theorem eqState_same (x y : Value) (s : St) (w : World) (hs : s.r.length ≤ 1048576) (hx : IsS w x s) (hy : IsS w y s) :
  Calls Tryz.prog 43 #[x, y] w fun e w' => e = .returned (.bool true) ∧ Below w.heap.size w w' := by
 obtain ⟨vr, rfl, h1⟩ := hx
 obtain ⟨ur, rfl, k1⟩ := hy
 obtain ⟨l, q, d⟩ := s
 have HI : Hid (IsI w vr l ∧ IsI w ur l) := ⟨h1, k1⟩
 have HS : Hid (l.length ≤ 4611686018427387904) := (by have : l.length ≤ 1048576 := hs; omega : l.length ≤ 4611686018427387904)
 clear h1 k1 hs
 obtain ⟨W0, hW0⟩ : ∃ W0, (w.alloc (.cells #[vr, .int .i64 q, .int .i64 d] 29)).alloc (.cells #[ur, .int .i64 q, .int .i64 d] 29) = W0 := ⟨_, rfl⟩
 have HB0 : Hid (Below w.heap.size w W0) := by rw [← hW0]; exact ((Below.refl _ w).alloc (Nat.le_refl _) _).alloc (by simp) _
 have HP0 : Hid (Bk W0 w.heap.size 29 #[vr, .int .i64 q, .int .i64 d]) := by rw [← hW0]; exact (Bk.new w _ _).alloc _
 have HQ0 : Hid (Bk W0 (w.heap.size + 1) 29 #[ur, .int .i64 q, .int .i64 d]) := by rw [← hW0]; exact Bk.newAt (by simp) _ _
 have p0 := HP0.out.cell (i := 0) rfl
 have q0 := HQ0.out.cell (i := 0) rfl
 go_enter Tryz.func43, Tryz.ntmps43
 go_wp2_with fail
 clear p0 q0 hW0
 refine (eqI_same _ _ l _ HS.out (HI.out.1.below HB0.out) (HI.out.2.below HB0.out)).mono ?_
 rintro e w1 ⟨rfl, hb⟩
 have HB1 : Hid (Below w.heap.size w w1) := HB0.out.trans (hb.mono HB0.out.size)
 have p1 := (HP0.out.below hb).cell (i := 1) rfl
 have q1 := (HQ0.out.below hb).cell (i := 1) rfl
 have p2 := (HP0.out.below hb).cell (i := 2) rfl
 have q2 := (HQ0.out.below hb).cell (i := 2) rfl
 clear hb HB0 HP0 HQ0
 go_wp2
 go_ret
 exact ⟨rfl, HB1.out⟩
set_option maxHeartbeats 2000000 in
theorem toState_any (x : Value) (s : St) (w : World) (hs : s.r.length ≤ 1048576) (h : IsS w x s) :
  Calls Tryz.prog 59 #[x] w fun e w' => ∃ y, e = .returned y ∧ Below w.heap.size w w' ∧ StF (fun k => w.heap.size ≤ k ∧ k < w'.heap.size) w' y s := by
 obtain ⟨vr, rfl, h1⟩ := h
 obtain ⟨i, n, z⟩ := s
 have HI : Hid (IsI w vr i) := h1
 have HS : Hid (i.length ≤ 1048576) := hs
 clear h1 hs
 obtain ⟨W0, hW0⟩ : ∃ W0, ((w.alloc (.cells #[vr, .int .i64 n, .int .i64 z] 45)).alloc (.cells #[.slice none 0 0, .int .i64 0, .int .i64 0] 29)).alloc (.cells #[.slice none 0 0, .int .i64 0, .int .i64 0] 29) = W0 := ⟨_, rfl⟩
 have HB0 : Hid (Below w.heap.size w W0) := by rw [← hW0]; exact (((Below.refl _ w).alloc (Nat.le_refl _) _).alloc (by simp) _).alloc (by simp; omega) _
 have HP0 : Hid (Bk W0 w.heap.size 45 #[vr, .int .i64 n, .int .i64 z]) := by rw [← hW0]; exact ((Bk.new w _ _).alloc _).alloc _
 have HR0 : Hid (Bk W0 (w.heap.size + 1) 29 #[.slice none 0 0, .int .i64 0, .int .i64 0]) := by rw [← hW0]; exact (Bk.newAt (by simp) _ _).alloc _
 have HQ0 : Hid (Bk W0 (w.heap.size + 1 + 1) 29 #[.slice none 0 0, .int .i64 0, .int .i64 0]) := by rw [← hW0]; exact Bk.newAt (by simp) _ _
 have HW0 : Hid (((w.alloc (.cells #[vr, .int .i64 n, .int .i64 z] 45)).alloc (.cells #[.slice none 0 0, .int .i64 0, .int .i64 0] 29)).alloc (.cells #[.slice none 0 0, .int .i64 0, .int .i64 0] 29) = W0) := hW0
 clear hW0
 go_enter Tryz.func59, Tryz.ntmps59
 go_wp2_with fail
 rw [HW0.out]
 clear HW0
 refine (toI_any _ i _ HS.out (HI.out.below HB0.out)).mono ?_
 rintro e w1 ⟨rfl, hb, hr⟩
 have HI1 : Hid (RowI w1 W0.heap.size i) := hr
 have hz1 : W0.heap.size < w1.heap.size := hr.1
 have hq := HQ0.out.lt
 have HX1 : Hid (Below w.heap.size w w1) := HB0.out.trans (hb.mono (by omega))
 have HPa := HP0.out.below hb
 have HRa := HR0.out.below hb
 have HQa := HQ0.out.below hb
 clear hb hr HB0 HP0 HR0 HQ0
 obtain ⟨X1, hX1⟩ : ∃ X1, w1.setCell ⟨w.heap.size + 1 + 1, 0, none⟩ (sl W0.heap.size i.length) = X1 := ⟨_, rfl⟩
 obtain ⟨X2, hX2⟩ : ∃ X2, X1.setCell ⟨w.heap.size + 1 + 1, 1, none⟩ (.int .i64 n) = X2 := ⟨_, rfl⟩
 obtain ⟨X3, hX3⟩ : ∃ X3, X2.setCell ⟨w.heap.size + 1 + 1, 2, none⟩ (.int .i64 z) = X3 := ⟨_, rfl⟩
 have a0 := HQa.cell (i := 0) rfl
 have af := HQa.free
 have HP1 : Bk X1 w.heap.size 45 #[vr, .int .i64 n, .int .i64 z] := hX1 ▸ HPa.other 0 _ (by omega)
 have HR1 : Bk X1 (w.heap.size + 1) 29 #[.slice none 0 0, .int .i64 0, .int .i64 0] := hX1 ▸ HRa.other 0 _ (by omega)
 have HQ1 : Bk X1 (w.heap.size + 1 + 1) 29 #[sl W0.heap.size i.length, .int .i64 0, .int .i64 0] := hX1 ▸ HQa.put 0 _
 have p1 := HP1.cell (i := 1) rfl
 have b1 := HQ1.cell (i := 1) rfl
 have bf := HQ1.free
 have HP2 : Bk X2 w.heap.size 45 #[vr, .int .i64 n, .int .i64 z] := hX2 ▸ HP1.other 1 _ (by omega)
 have HR2 : Bk X2 (w.heap.size + 1) 29 #[.slice none 0 0, .int .i64 0, .int .i64 0] := hX2 ▸ HR1.other 1 _ (by omega)
 have HQ2 : Bk X2 (w.heap.size + 1 + 1) 29 #[sl W0.heap.size i.length, .int .i64 n, .int .i64 0] := hX2 ▸ HQ1.put 1 _
 have p2 := HP2.cell (i := 2) rfl
 have c2 := HQ2.cell (i := 2) rfl
 have cf := HQ2.free
 have HR3 : Bk X3 (w.heap.size + 1) 29 #[.slice none 0 0, .int .i64 0, .int .i64 0] := hX3 ▸ HR2.other 2 _ (by omega)
 have HQ3 : Bk X3 (w.heap.size + 1 + 1) 29 #[sl W0.heap.size i.length, .int .i64 n, .int .i64 z] := hX3 ▸ HQ2.put 2 _
 have o0 := HQ3.cell (i := 0) rfl
 have o1 := HQ3.cell (i := 1) rfl
 have o2 := HQ3.cell (i := 2) rfl
 have r0 := HR3.cell (i := 0) rfl
 have r1 := HR3.cell (i := 1) rfl
 have r2 := HR3.cell (i := 2) rfl
 have rf := HR3.free
 have HR4 : Hid (Bk X3 (w.heap.size + 1) 29 #[.slice none 0 0, .int .i64 0, .int .i64 0]) := HR3
 have t1 := put1_turns w1 (w.heap.size + 1 + 1) 0 (sl W0.heap.size i.length)
 have t2 := put1_turns X1 (w.heap.size + 1 + 1) 1 (.int .i64 n)
 have t3 := put1_turns X2 (w.heap.size + 1 + 1) 2 (.int .i64 z)
 rw [hX1] at t1
 rw [hX2] at t2
 rw [hX3] at t3
 have HT : Hid (Turns (fun k => k = w.heap.size + 1 + 1) w1 X3) := (t1.trans t2).trans t3
 clear HPa HRa HQa HP1 HR1 HQ1 HP2 HR2 HQ2 HR3 HQ3 t1 t2 t3
 go_wp2
 clear o0 o1 o2 r0 r1 r2 rf a0 af p1 b1 bf p2 c2 cf
 obtain ⟨X5, hX5⟩ : ∃ X5, put3 X3 (w.heap.size + 1) (.slice (some ⟨W0.heap.size, 0, none⟩) i.length i.length) (.int .i64 n) (.int .i64 z) = X5 := ⟨_, rfl⟩
 have hR := HR4.out.put3 (.slice (some ⟨W0.heap.size, 0, none⟩) i.length i.length) (.int .i64 n) (.int .i64 z)
 have ht := put3_turns X3 (w.heap.size + 1) (.slice (some ⟨W0.heap.size, 0, none⟩) i.length i.length) (.int .i64 n) (.int .i64 z)
 rw [hX5] at hR ht
 unfold put3 at hX5
 rw [hX5]
 have t0 := hR.cell (i := 0) rfl
 have t1 := hR.cell (i := 1) rfl
 have t2 := hR.cell (i := 2) rfl
 have hT : Turns (fun k => k = w.heap.size + 1 + 1 ∨ k = w.heap.size + 1) w1 X5 := (HT.out.mono (fun k e => .inl e)).trans (ht.mono (fun k e => .inr e))
 have hsz := hT.size
 refine bodyPost_ret (v := .agg #[sl W0.heap.size i.length, .int .i64 n, .int .i64 z]) (by simp [results, Tryz.results59, go_sem, t0, t1, t2]) rfl
  ⟨_, rfl, HX1.out.trans (hT.to_below (fun k e => by omega) (by omega)), _, rfl, ?_⟩
 exact ((HI1.out.rowF (by have := HS.out; unfold maxLen; omega)).turns hT (fun k e => by omega)).mono (fun k e => by omega)
end Go.Proofs.YtnccenbkpocjgaaGreat

/- Both StateOk. -/
namespace Go.Proofs.YtnccenbkpocjgaaGreat
open Go.RowKit
def inB (x : Int) : Bool := decide (0 ≤ x ∧ x ≤ 999)
def St.ok (s : St) : Bool := decide (s.r.length = 2 ∧ (0 ≤ intAt s.r 0 ∧ intAt s.r 0 ≤ 999) ∧ (0 ≤ intAt s.r 1 ∧ intAt s.r 1 ≤ 999) ∧ 0 ≤ s.q ∧ s.q ≤ 99992 ∧ 0 ≤ s.d ∧ s.d ≤ 99992)
set_option maxRecDepth 100000 in
set_option maxHeartbeats 4000000 in
theorem sStOk (x : Value) (s : St) (w : World) (h : IsS w x s) :
  Calls Tryz.prog 104 #[x] w fun e w' => e = .returned (.bool s.ok) ∧ Below w.heap.size w w' := by
 obtain ⟨vr, rfl, ai, ci, rfl, hi1, hi2, hi3⟩ := h
 clear hi1 hi2
 obtain ⟨W0, hW0⟩ : ∃ W0, w.alloc (.cells #[.slice ai s.r.length ci, .int .i64 s.q, .int .i64 s.d] 29) = W0 := ⟨_, rfl⟩
 have HB0 : Hid (Below w.heap.size w W0) := by rw [← hW0]; exact (Below.refl _ w).alloc (Nat.le_refl _) _
 have HP0 : Bk W0 w.heap.size 29 #[.slice ai s.r.length ci, .int .i64 s.q, .int .i64 s.d] := by rw [← hW0]; exact Bk.new w _ _
 have p0 := HP0.cell (i := 0) rfl
 have p1 := HP0.cell (i := 1) rfl
 have p2 := HP0.cell (i := 2) rfl
 clear HP0
 by_cases c0 : s.r.length = 2
 case neg =>
  have c1 : ¬ ((s.r.length : Int) = 2) := by omega
  clear hi3
  go_enter Tryz.func104, Tryz.ntmps104
  go_wp2
  go_ret
  exact ⟨ret_bool (by simp [St.ok, c0]), HB0.out⟩
 obtain ⟨b, off, rfl, hb, hc⟩ := hi3.resolve_left (by intro e; rw [e] at c0; simp at c0)
 have f0 : W0.cell? ⟨b, off, none⟩ = some (.int .i64 (intAt s.r 0)) := (HB0.out.cell (p := ⟨b, off, none⟩) hb).trans (hc 0 (by omega))
 have f1 : W0.cell? ⟨b, off + 1, none⟩ = some (.int .i64 (intAt s.r 1)) := (HB0.out.cell (p := ⟨b, off + 1, none⟩) hb).trans (hc 1 (by omega))
 have hok : s.ok = decide ((0 ≤ intAt s.r 0 ∧ intAt s.r 0 ≤ 999) ∧ (0 ≤ intAt s.r 1 ∧ intAt s.r 1 ≤ 999) ∧ 0 ≤ s.q ∧ s.q ≤ 99992 ∧ 0 ≤ s.d ∧ s.d ≤ 99992) := by simp [St.ok, c0]
 have HOK : Hid (s.ok = decide ((0 ≤ intAt s.r 0 ∧ intAt s.r 0 ≤ 999) ∧ (0 ≤ intAt s.r 1 ∧ intAt s.r 1 ≤ 999) ∧ 0 ≤ s.q ∧ s.q ≤ 99992 ∧ 0 ≤ s.d ∧ s.d ≤ 99992)) := hok
 rw [c0] at hW0 p0 ⊢
 generalize s.ok = okv at HOK ⊢
 generalize intAt s.r 0 = y at f0 HOK
 generalize intAt s.r 1 = z at f1 HOK
 generalize s.q = q at hW0 p1 HOK ⊢
 generalize s.d = d at hW0 p2 HOK ⊢
 clear hc hb hok c0
 go_enter Tryz.func104, Tryz.ntmps104
 go_wp2
 all_goals
  go_ret
  refine ⟨?_, HB0.out⟩
  rw [HOK.out]
  first | exact ret_bool (decide_eq_decide.2 (by omega)) | exact ret_bool (decide_eq_false (by omega)).symm | exact ret_bool (by simp; omega)
set_option maxRecDepth 100000 in
set_option maxHeartbeats 4000000 in
theorem iStOk (x : Value) (s : St) (w : World) (h : IsS w x s) :
  Calls Tryz.prog 114 #[x] w fun e w' => e = .returned (.bool s.ok) ∧ Below w.heap.size w w' := by
 obtain ⟨vr, rfl, ai, ci, rfl, hi1, hi2, hi3⟩ := h
 clear hi1 hi2
 obtain ⟨W0, hW0⟩ : ∃ W0, w.alloc (.cells #[.slice ai s.r.length ci, .int .i64 s.q, .int .i64 s.d] 29) = W0 := ⟨_, rfl⟩
 have HB0 : Hid (Below w.heap.size w W0) := by rw [← hW0]; exact (Below.refl _ w).alloc (Nat.le_refl _) _
 have HP0 : Bk W0 w.heap.size 29 #[.slice ai s.r.length ci, .int .i64 s.q, .int .i64 s.d] := by rw [← hW0]; exact Bk.new w _ _
 have p0 := HP0.cell (i := 0) rfl
 have p1 := HP0.cell (i := 1) rfl
 have p2 := HP0.cell (i := 2) rfl
 clear HP0
 by_cases c0 : s.r.length = 2
 case neg =>
  have c1 : ¬ ((s.r.length : Int) = 2) := by omega
  clear hi3
  go_enter Tryz.func114, Tryz.ntmps114
  go_wp2
  go_ret
  exact ⟨ret_bool (by simp [St.ok, c0]), HB0.out⟩
 obtain ⟨b, off, rfl, hb, hc⟩ := hi3.resolve_left (by intro e; rw [e] at c0; simp at c0)
 have HC : Hid (∀ k, k < 2 → W0.cell? ⟨b, off + k, none⟩ = some (.int .i64 (intAt s.r k))) := fun k hk => (HB0.out.cell (p := ⟨b, off + k, none⟩) hb).trans (hc k (by omega))
 have HOK : Hid (s.ok = decide ((0 ≤ intAt s.r 0 ∧ intAt s.r 0 ≤ 999) ∧ (0 ≤ intAt s.r 1 ∧ intAt s.r 1 ≤ 999) ∧ 0 ≤ s.q ∧ s.q ≤ 99992 ∧ 0 ≤ s.d ∧ s.d ≤ 99992)) := (by simp [St.ok, c0] : s.ok = _)
 have HNO : Hid (∀ k, k < 2 → inB (intAt s.r k) = false → s.ok = false) := (by
  intro k hk h
  unfold inB at h
  have hd := of_decide_eq_false h
  simp only [St.ok, decide_eq_false_iff_not]
  intro hh
  match k, hk with
  | 0, _ => exact hd hh.2.1
  | 1, _ => exact hd hh.2.2.1 : ∀ k, k < 2 → inB (intAt s.r k) = false → s.ok = false)
 have HYES : Hid ((∀ j, j < 2 → inB (intAt s.r j) = true) → s.ok = ((decide (0 ≤ s.q) && decide (s.q ≤ 99992)) && (decide (0 ≤ s.d) && decide (s.d ≤ 99992)))) := (by
  intro h
  have h0 := of_decide_eq_true (h 0 (by omega))
  have h1 := of_decide_eq_true (h 1 (by omega))
  simp [St.ok, c0, h0, h1, Bool.decide_and, Bool.and_assoc] : _)
 rw [c0] at hW0 p0 ⊢
 generalize s.ok = okv at HOK HNO HYES ⊢
 generalize s.q = q at hW0 p1 HOK HYES ⊢
 generalize s.d = d at hW0 p2 HOK HYES ⊢
 clear hc hb c0 HOK
 go_enter Tryz.func114, Tryz.ntmps114
 go_wp2
 clear hW0
 go_loop [12] (fun i => ∃ k : Nat, k ≤ 2 ∧ i = .int .i64 k ∧ ∀ j, j < k → inB (intAt s.r j) = true) (fun i => 2 - (intOf i).toNat)
 case atStart => exact ⟨0, Nat.zero_le _, rfl, fun j hj => by omega⟩
 case round =>
  obtain ⟨k, hk, rfl, hall⟩ := hrel
  have HA : Hid (∀ j, j < k → inB (intAt s.r j) = true) := hall
  clear hall
  by_cases hlt : k < 2
  ·have f0 := HC.out k hlt
   obtain ⟨y, hy⟩ : ∃ y, y = intAt s.r k := ⟨_, rfl⟩
   have HY : Hid (y = intAt s.r k) := hy
   rw [← hy] at f0
   have hkn : (k : Int) < 2 := by omega
   clear hy
   go_wp2_with fail
   refine (within_any _ _ _ _).mono ?_
   rintro e w2 ⟨rfl, hw⟩
   have hw' := hw.symm
   clear hw
   subst hw'
   by_cases y0 : 0 ≤ y ∧ y ≤ 999
   ·rw [show (decide (0 ≤ y) && decide (y ≤ 999)) = true from by simp [y0]]
    have HN : Hid (inB y = true) := decide_eq_true y0
    clear y0
    go_wp2
    go_round
    case rel => exact ⟨k + 1, by omega, by go_num, fun j hj => by
     by_cases e : j < k
     ·exact HA.out j e
     ·rw [show j = k by omega, ← HY.out]; exact HN.out⟩
    case measure => simp [intOf]; omega
   ·rw [show (decide (0 ≤ y) && decide (y ≤ 999)) = false from by simp; omega]
    have hno : okv = false := HNO.out k hlt (by rw [← HY.out]; exact decide_eq_false y0)
    subst hno
    clear y0
    go_wp2
    go_ret
    exact ⟨rfl, HB0.out⟩
  ·have hyes := HYES.out (fun j hj => HA.out j (by omega))
   subst hyes
   have hkn : ¬ (k : Int) < 2 := by omega
   go_wp2_with fail
   refine (within_any _ _ _ _).mono ?_
   rintro e w2 ⟨rfl, hw⟩
   have hw' := hw.symm
   clear hw
   subst hw'
   cases hq : (decide (0 ≤ q) && decide (q ≤ 99992)) with
   | false =>
    have HQ : Hid ((decide (0 ≤ q) && decide (q ≤ 99992)) = false) := hq
    clear hq
    go_wp2
    go_ret
    exact ⟨ret_bool (by rw [HQ.out]; rfl), HB0.out⟩
   | true =>
    have HQ : Hid ((decide (0 ≤ q) && decide (q ≤ 99992)) = true) := hq
    clear hq
    go_wp2_with fail
    refine (within_any _ _ _ _).mono ?_
    rintro e w2 ⟨rfl, hw⟩
    have hw' := hw.symm
    clear hw
    subst hw'
    go_wp2
    go_ret
    exact ⟨ret_bool (by rw [HQ.out]; rfl), HB0.out⟩
end Go.Proofs.YtnccenbkpocjgaaGreat

/- Emits: how they are read, held against each other, marked, and found again. -/
namespace Go.Proofs.YtnccenbkpocjgaaGreat
open Go.RowKit
structure XAt (w : World) (b o : Nat) (e : Em) : Prop where
 f0 : w.cell? ⟨b, o, none⟩ = some (.int .i64 e.t)
 f1 : w.cell? ⟨b, o + 1, none⟩ = some (.int .i64 e.l)
 f2 : w.cell? ⟨b, o + 2, none⟩ = some (.int .i64 e.v)
theorem XAt.below {w w' : World} {B b o : Nat} {e : Em} (h : XAt w b o e) (hb : Below B w w') (hlt : b < B) : XAt w' b o e :=
 ⟨(hb.cell hlt).trans h.f0, (hb.cell hlt).trans h.f1, (hb.cell hlt).trans h.f2⟩
def XsAt (w : World) (b off : Nat) (l : List Em) : Prop := b < w.heap.size ∧ ∀ i, i < l.length → XAt w b (off + i * 3) (xAt l i)
def IsX (w : World) (x : Value) (l : List Em) : Prop := ∃ a cap, x = .slice a l.length cap ∧ l.length ≤ cap ∧ cap ≤ maxLen ∧ (l = [] ∨ ∃ b off, a = some ⟨b, off, none⟩ ∧ XsAt w b off l)
theorem XsAt.below {w w' : World} {B b off : Nat} {l : List Em} (h : XsAt w b off l) (hb : Below B w w') (hB : b < B) : XsAt w' b off l :=
 ⟨Nat.lt_of_lt_of_le h.1 hb.size, fun i hi => (h.2 i hi).below hb hB⟩
theorem IsX.below {w w' : World} {x : Value} {l : List Em} (h : IsX w x l) (hb : Below w.heap.size w w') : IsX w' x l := by
 obtain ⟨a, cap, rfl, h1, h2, h⟩ := h
 exact ⟨a, cap, rfl, h1, h2, h.imp id (fun ⟨b, off, e, h⟩ => ⟨b, off, e, h.below hb h.1⟩)⟩
set_option maxHeartbeats 1000000 in
theorem eqEmit_same (t l v : Int) (w : World) :
  Calls Tryz.prog 196 #[.agg #[.int .i64 t, .int .i64 l, .int .i64 v], .agg #[.int .i64 t, .int .i64 l, .int .i64 v]] w fun e w' => e = .returned (.bool true) ∧ Below w.heap.size w w' := by
 go_enter Tryz.func196, Tryz.ntmps196
 go_wp2
 go_ret
 exact ⟨rfl, ((Below.refl _ _).alloc (Nat.le_refl _) _).alloc (by simp) _⟩
set_option maxHeartbeats 1000000 in
theorem eqX_same (x y : Value) (l : List Em) (w : World) (hl : l.length ≤ 1048576) (hx : IsX w x l) (hy : IsX w y l) :
  Calls Tryz.prog 155 #[x, y] w fun e w' => e = .returned (.bool true) ∧ Below w.heap.size w w' := by
 obtain ⟨a, cap, rfl, h1, h2, h⟩ := hx
 obtain ⟨a', cap', rfl, h1', h2', h'⟩ := hy
 clear h1 h2 h1' h2'
 by_cases hz : l = []
 ·subst hz
  clear h h'
  go_enter Tryz.func155, Tryz.ntmps155
  go_wp2
  go_loop [5] (fun i => i = .int .i64 0) (fun _ => 0)
  case atStart => rfl
  case round =>
   subst hrel
   go_wp2
   go_ret
   exact ⟨rfl, Below.refl _ _⟩
 ·obtain ⟨b, off, rfl, hb, hc⟩ := h.resolve_left hz
  obtain ⟨b', off', rfl, hb', hc'⟩ := h'.resolve_left hz
  clear h h' hz
  go_enter Tryz.func155, Tryz.ntmps155
  go_wp2
  go_loopw [5] (fun i wr => ∃ k : Nat, k ≤ l.length ∧ i = .int .i64 k ∧ Below w.heap.size w wr) (fun i _ => l.length - (intOf i).toNat)
  case atStart => exact ⟨0, Nat.zero_le _, rfl, Below.refl _ _⟩
  case round =>
   obtain ⟨k, hk, rfl, hB⟩ := hrel
   have HB : Hid (Below w.heap.size w wr) := hB
   by_cases hlt : k < l.length
   ·obtain ⟨f0, f1, f2⟩ := (hc k hlt).below hB hb
    obtain ⟨e0, e1, e2⟩ := (hc' k hlt).below hB hb'
    have hbr : b < wr.heap.size := Nat.lt_of_lt_of_le hb hB.size
    have hbr' : b' < wr.heap.size := Nat.lt_of_lt_of_le hb' hB.size
    clear hB hc hc'
    go_wp2_with fail
    go_region_held3 (fun W => W.cell? ⟨b, off + k * 3, none⟩ = some (.int .i64 (xAt l k).t) ∧ W.cell? ⟨b, off + k * 3 + 1, none⟩ = some (.int .i64 (xAt l k).l) ∧ W.cell? ⟨b, off + k * 3 + 2, none⟩ = some (.int .i64 (xAt l k).v) ∧ W.cell? ⟨b', off' + k * 3, none⟩ = some (.int .i64 (xAt l k).t) ∧ W.cell? ⟨b', off' + k * 3 + 1, none⟩ = some (.int .i64 (xAt l k).l) ∧ W.cell? ⟨b', off' + k * 3 + 2, none⟩ = some (.int .i64 (xAt l k).v)) ((repeat' apply And.intro) <;> first | (go_keep; done) | (rw [hcA _ _ (by first | omega | (simp; omega) | simp [*])]; simp [*]; done))
     (first | (go_at_call 196; refine (eqEmit_same _ _ _ _).mono ?_; rintro e w2 ⟨rfl, hb2⟩; obtain ⟨hcA, hfA⟩ := bcell hb2))
    clear hcA hfA
    go_wp2
    go_roundw
    case rel => exact ⟨k + 1, by omega, by go_num, HB.out.drew.trans (hb2.mono (by have := HB.out.size; simpa using this))⟩
    case measure => simp [intOf]; omega
   ·clear hB hc hc'
    go_wp2
    go_ret
    exact ⟨rfl, HB.out⟩
set_option maxHeartbeats 4000000 in
theorem markXF {F : Nat → Prop} {x : Value} {n : Nat} {cs : List Value} {w : World} (z : Int) (hn : n ≤ 1048577) (hz0 : 0 ≤ z) (hz1 : z ≤ 1073741824) (h : RowF F w x n 3 cs) :
  Calls Tryz.prog 101 #[x, .int .i64 z] w fun e w' => e = .returned (.int .i64 (z + 3 * (n : Int))) ∧ RowF F w' x n 3 (mkCells z (n * 3)) ∧ Turns F w w' := by
 obtain ⟨a, cap, rfl, h1, h2, h⟩ := h.mkTo z
 have HM : Hid (n ≤ cap ∧ cap ≤ maxLen) := ⟨h1, h2⟩
 clear h1 h2
 by_cases hz : n = 0
 ·subst hz
  clear h
  go_enter Tryz.func101, Tryz.ntmps101
  go_wp2
  go_loop [5, 1] (fun i y => i = .int .i64 0 ∧ y = .int .i64 z) (fun _ _ => 0)
  case atStart => exact ⟨rfl, rfl⟩
  case round =>
   obtain ⟨rfl, rfl⟩ := hrel
   go_wp2
   go_ret
   exact ⟨ret_int (by simp), RowF.nil HM.out.2, Turns.refl _ _⟩
 ·obtain ⟨g, rfl, hF, h⟩ := h.resolve_left hz
  have HR0 : Hid (MkTo w g (n * 3) z 0) := h
  have HF : Hid (F g) := hF
  clear h hz hF
  go_enter Tryz.func101, Tryz.ntmps101
  go_wp2
  go_loopw [5, 1] (fun i y wr => ∃ k : Nat, k ≤ n ∧ i = .int .i64 k ∧ y = .int .i64 (z + 3 * (k : Int)) ∧ MkTo wr g (n * 3) z (k * 3) ∧ Turns (fun b => b = g) w wr) (fun i _ _ => n - (intOf i).toNat)
  case atStart => exact ⟨0, Nat.zero_le _, rfl, by simp, by rw [Nat.zero_mul]; exact HR0.out, Turns.refl _ _⟩
  case round =>
   obtain ⟨k, hk, rfl, rfl, hR, hg⟩ := hrel
   have HR : Hid (MkTo wr g (n * 3) z (k * 3)) := hR
   have HG : Hid (Turns (fun b => b = g) w wr) := hg
   clear hR hg
   by_cases hlt : k < n
   ·have hh : ∀ j, j < 3 → (∃ u, wr.cell? ⟨g, k * 3 + j, none⟩ = some u) ∧ wr.frozen? ⟨g, k * 3 + j, none⟩ = false := fun j hj => ⟨Option.isSome_iff_exists.1 (HR.out.2.1 _ (by omega)).1, (HR.out.2.1 _ (by omega)).2⟩
    obtain ⟨⟨v0, g0⟩, f0⟩ := hh 0 (by omega)
    obtain ⟨⟨v1, g1⟩, f1⟩ := hh 1 (by omega)
    obtain ⟨⟨v2, g2⟩, f2⟩ := hh 2 (by omega)
    rw [Nat.add_zero] at g0 f0
    clear hh
    obtain ⟨y, hy⟩ : ∃ y : Int, y = z + 3 * (k : Int) := ⟨_, rfl⟩
    have hy0 : 0 ≤ y := by omega
    have hy1 : y ≤ 1090000000 := by omega
    have HY : Hid (y = z + 3 * (k : Int)) := hy
    rw [← hy]
    clear hy
    go_wp2
    go_roundw
    case rel =>
     have hY := HY.out
     refine ⟨k + 1, by omega, by go_num, by rw [show y + 1 + 1 + 1 = z + 3 * ((k + 1 : Nat) : Int) from by omega], ?_, ?_⟩
     ·rw [show (k + 1) * 3 = k * 3 + 3 from by omega]
      exact ((HR.out.put (by omega) (u := y) (by omega)).put (by omega) (u := y + 1) (by omega)).put (by omega) (u := y + 1 + 1) (by omega)
     ·exact HG.out.trans (((one_add wr g _ _).trans (one_add _ _ _ _)).trans (one_add _ _ _ _))
    case measure => simp [intOf]; omega
   ·go_wp2
    go_ret
    obtain rfl : k = n := by omega
    exact ⟨rfl, MkTo.row HR.out HF.out HM.out.1 HM.out.2, HG.out.mono (fun k e => e ▸ HF.out)⟩
set_option maxHeartbeats 4000000 in
theorem heldXF {F : Nat → Prop} {x : Value} {n : Nat} {w : World} (z : Int) (hn : n ≤ 1048577) (hz0 : 0 ≤ z) (hz1 : z ≤ 1073741824) (h : RowF F w x n 3 (mkCells z (n * 3))) :
  Calls Tryz.prog 102 #[x, .int .i64 z] w fun e w' => e = .returned (.int .i64 (z + 3 * (n : Int))) ∧ w' = w := by
 obtain ⟨a, cap, rfl, hm⟩ := h.marked
 clear h
 by_cases hz : n = 0
 ·subst hz
  clear hm
  go_enter Tryz.func102, Tryz.ntmps102
  go_wp2
  go_loop [5, 1] (fun i y => i = .int .i64 0 ∧ y = .int .i64 z) (fun _ _ => 0)
  case atStart => exact ⟨rfl, rfl⟩
  case round =>
   obtain ⟨rfl, rfl⟩ := hrel
   go_wp2
   go_ret
   exact ⟨ret_int (by simp), rfl⟩
 ·obtain ⟨g, rfl, h⟩ := hm.resolve_left hz
  have HR : Hid (∀ j, j < n * 3 → w.cell? ⟨g, j, none⟩ = some (.int .i64 (z + (j : Int)))) := h
  clear h hz hm
  go_enter Tryz.func102, Tryz.ntmps102
  go_wp2
  go_loop [5, 1] (fun i y => ∃ k : Nat, k ≤ n ∧ i = .int .i64 k ∧ y = .int .i64 (z + 3 * (k : Int))) (fun i _ => n - (intOf i).toNat)
  case atStart => exact ⟨0, Nat.zero_le _, rfl, by simp⟩
  case round =>
   obtain ⟨k, hk, rfl, rfl⟩ := hrel
   by_cases hlt : k < n
   ·have hh := fun j (hj : j < 3) => HR.out (k * 3 + j) (by omega)
    obtain ⟨y, hy⟩ : ∃ y : Int, y = z + 3 * (k : Int) := ⟨_, rfl⟩
    have g0 := hh 0 (by omega)
    rw [show z + ((k * 3 + 0 : Nat) : Int) = y from by omega] at g0
    have g1 := hh 1 (by omega)
    rw [show z + ((k * 3 + 1 : Nat) : Int) = y + 1 from by omega] at g1
    have g2 := hh 2 (by omega)
    rw [show z + ((k * 3 + 2 : Nat) : Int) = y + 1 + 1 from by omega] at g2
    rw [Nat.add_zero] at g0
    clear hh
    have hy0 : 0 ≤ y := by omega
    have hy1 : y ≤ 1090000000 := by omega
    have HY : Hid (y = z + 3 * (k : Int)) := hy
    rw [← hy]
    clear hy
    go_wp2
    go_round
    case rel => exact ⟨k + 1, by omega, by go_num, by rw [show y + 1 + 1 + 1 = z + 3 * ((k + 1 : Nat) : Int) from by have := HY.out; omega]⟩
    case measure => simp [intOf]; omega
   ·go_wp2
    go_ret
    obtain rfl : k = n := by omega
    exact ⟨rfl, rfl⟩
end Go.Proofs.YtnccenbkpocjgaaGreat

