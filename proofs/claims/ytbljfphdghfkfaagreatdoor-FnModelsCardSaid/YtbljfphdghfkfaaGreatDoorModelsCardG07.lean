/- OkI, MOk, MOkI, MOkJ -/
import Derived.Test.YtbljfphdghfkfaaGreatDoorModelsCardG00
import Derived.Test.YtbljfphdghfkfaaGreatDoorModelsCardG05
import Derived.Test.YtbljfphdghfkfaaGreatDoorModelsCardLOkS
/- The program's EventOk. -/
namespace Go.Proofs.YtbljfphdghfkfaaGreatDoor
open Go.RowKit
set_option maxHeartbeats 2000000 in
theorem iOk_any (t s q d k v g : Int) (w : World) :
  Calls Tryz.prog 66 #[.agg #[.int .i64 t, .int .i64 s, .int .i64 q, .int .i64 d, .int .i64 k, .int .i64 v, .int .i64 g]] w fun e w' =>
   e = .returned (.bool (okB t s q d k v g)) ∧ Below w.heap.size w w' := by
 go_enter Tryz.func66, Tryz.ntmps66
 go_wp2
 all_goals
  go_ret
  refine ⟨?_, (Below.refl _ _).alloc (Nat.le_refl _) _⟩
  first | exact ret_dec (by simp [okB]; omega) | exact ret_bool (by simp [okB]; omega)
end Go.Proofs.YtbljfphdghfkfaaGreatDoor

/- ModelOk, as plain words. -/
namespace Go.Proofs.YtbljfphdghfkfaaGreatDoor
open Go.RowKit
def Md.hd (m : Md) : Prop := 1 ≤ m.n ∧ m.n ≤ 4 ∧ 0 ≤ m.s ∧ m.s ≤ 65535 ∧ (m.i.length : Int) = m.n ∧ 1 ≤ m.h.length ∧ m.h.length ≤ 4 ∧ m.e.length ≤ 6 ∧ 0 ≤ m.z ∧ m.z ≤ 950
instance (m : Md) : Decidable m.hd := by unfold Md.hd; infer_instance
def inB (x : Int) : Bool := decide (0 ≤ x ∧ x ≤ 999)
def Md.okI (m : Md) : Bool := (List.range m.i.length).all fun j => inB (intAt m.i j)
def rowB (m : Md) (r : List O) : Bool := decide (r.length ≤ 8) && (List.range r.length).all fun q => (oAt r q).ok m.n m.h.length
def Md.okH (m : Md) : Bool := (List.range m.h.length).all fun j => rowB m (hAt m.h j)
def stB (m : Md) (j : Nat) (e : Ev) : Bool := e.ok && decide (e.s = -1 ∧ e.q = (j : Int) ∧ e.g = (j : Int) ∧ e.d < m.n ∧ e.k < (m.h.length : Int) ∧ e.t ≤ m.z)
def Md.okE (m : Md) : Bool := (List.range m.e.length).all fun j => stB m j (evAt m.e j)
def Md.ok (m : Md) : Bool := decide m.hd && m.okI && m.okH && m.okE
theorem range_no {n : Nat} {f : Nat → Bool} {k : Nat} (hk : k < n) (h : f k = false) : (List.range n).all f = false := by
 rw [List.all_eq_false]; exact ⟨k, by simpa using hk, by simp [h]⟩
theorem range_yes {n : Nat} {f : Nat → Bool} (h : ∀ k, k < n → f k = true) : (List.range n).all f = true := by
 rw [List.all_eq_true]; intro k hk; exact h k (by simpa using hk)
theorem ok_hd {m : Md} (h : ¬ m.hd) : m.ok = false := by simp [Md.ok, h]
theorem ok_i {m : Md} (h : m.okI = false) : m.ok = false := by simp [Md.ok, h]
theorem ok_h {m : Md} (h : m.okH = false) : m.ok = false := by simp [Md.ok, h]
theorem ok_e {m : Md} (h : m.okE = false) : m.ok = false := by simp [Md.ok, h]
theorem ok_yes {m : Md} (h : m.hd) (hi : m.okI = true) (hh : m.okH = true) (he : m.okE = true) : m.ok = true := by simp [Md.ok, h, hi, hh, he]
end Go.Proofs.YtbljfphdghfkfaaGreatDoor

/- The program's ModelOk: its parts. -/
namespace Go.Proofs.YtbljfphdghfkfaaGreatDoor
open Go.RowKit
set_option maxRecDepth 100000 in
set_option maxHeartbeats 4000000 in
theorem initOk_any (x : Value) (m : Md) (w : World) (hs : SmallM m) (h : IsM w x m) :
  Calls Tryz.prog 32 #[x] w fun e w' => e = .returned (.bool (decide ((m.i.length : Int) = m.n) && m.okI)) ∧ Below w.heap.size w w' := by
 have HX : Hid (IsM w x m) := h
 obtain ⟨vi, vh, vs, rfl, ⟨ai, ci, rfl, hi1, hi2, hi3⟩, ⟨ah, ch, rfl, hh1, hh2, hh3⟩, ⟨ae, ce, rfl, he1, he2, he3⟩⟩ := h
 have hi0 : m.i.length ≤ 1048576 := hs.i
 have hh0 : m.h.length ≤ 1048576 := hs.h
 have he0 : m.e.length ≤ 1048576 := hs.e
 have HS : Hid (SmallM m) := hs
 clear hs hi1 hi2 hh1 hh2 he1 he2
 clear hh3 he3 HX HS
 obtain ⟨W0, hW0⟩ : ∃ W0, w.alloc (.cells #[.int .i64 m.n, .int .i64 m.s, .slice ai m.i.length ci, .slice ah m.h.length ch, .slice ae m.e.length ce, .int .i64 m.z] 27) = W0 := ⟨_, rfl⟩
 have HB0 : Hid (Below w.heap.size w W0) := by rw [← hW0]; exact (Below.refl _ w).alloc (Nat.le_refl _) _
 have HP0 : Hid (Bk W0 w.heap.size 27 #[.int .i64 m.n, .int .i64 m.s, .slice ai m.i.length ci, .slice ah m.h.length ch, .slice ae m.e.length ce, .int .i64 m.z]) := by rw [← hW0]; exact Bk.new w _ _
 have p0 := HP0.out.cell (i := 0) rfl
 have p2 := HP0.out.cell (i := 2) rfl
 by_cases c0 : (m.i.length : Int) = m.n
 case neg =>
  clear hi3
  go_enter Tryz.func32, Tryz.ntmps32
  go_wp2
  go_ret
  exact ⟨ret_bool (by simp [c0]), HB0.out⟩
 have HI : Hid (m.i = [] ∨ ∃ b off, ai = some ⟨b, off, none⟩ ∧ IntsAt W0 b off m.i) := hi3.imp id (fun ⟨b, off, e, h⟩ => ⟨b, off, e, h.below HB0.out h.1⟩)
 have HOK : Hid (∀ b, m.okI = b → (decide ((m.i.length : Int) = m.n) && m.okI) = b) := fun b e => by rw [e, c0]; simp
 generalize (decide ((m.i.length : Int) = m.n) && m.okI) = okv at HOK ⊢
 clear hi3
 go_enter Tryz.func32, Tryz.ntmps32
 go_wp2
 clear hW0
 have hn0 : m.n ≤ 1048576 := by omega
 have hn1 : 0 ≤ m.n := by omega
 go_loop [14] (fun i => ∃ k : Nat, k ≤ m.i.length ∧ i = .int .i64 k ∧ ∀ j, j < k → inB (intAt m.i j) = true) (fun i => m.i.length - (intOf i).toNat)
 case atStart => exact ⟨0, Nat.zero_le _, rfl, fun j hj => by omega⟩
 case round =>
  obtain ⟨k, hk, rfl, hall⟩ := hrel
  have HA : Hid (∀ j, j < k → inB (intAt m.i j) = true) := hall
  clear hall
  by_cases hlt : k < m.i.length
  ·obtain ⟨b, off, rfl, hb, hc⟩ := HI.out.resolve_left (by intro e; rw [e] at hlt; simp at hlt)
   have f0 := hc k hlt
   obtain ⟨y, hy⟩ : ∃ y, y = intAt m.i k := ⟨_, rfl⟩
   have HY : Hid (y = intAt m.i k) := hy
   rw [← hy] at f0
   have hkn : (k : Int) < m.n := by omega
   clear hc hy hb
   go_wp2_with fail
   refine (within_any _ _ _ _).mono ?_
   rintro e w2 ⟨rfl, hw⟩
   have hw' := hw.symm
   clear hw
   subst hw'
   by_cases y0 : 0 ≤ y ∧ y ≤ 999
   ·rw [show (decide (0 ≤ y) && decide (y ≤ 999)) = true from by simp [y0]]
    have HN : Hid (inB y = true) := decide_eq_true y0
    clear y0
    go_wp2
    go_round
    case rel => exact ⟨k + 1, by omega, by go_num, fun j hj => by
     by_cases e : j < k
     ·exact HA.out j e
     ·rw [show j = k by omega, ← HY.out]; exact HN.out⟩
    case measure => simp [intOf]; omega
   ·rw [show (decide (0 ≤ y) && decide (y ≤ 999)) = false from by simp; omega]
    have hno : okv = false := HOK.out _ (range_no hlt (by rw [← HY.out]; exact decide_eq_false y0))
    subst hno
    clear y0
    go_wp2
    go_ret
    exact ⟨rfl, HB0.out⟩
  ·have hyes : okv = true := HOK.out _ (range_yes (fun j hj => HA.out j (by omega)))
   subst hyes
   have hkn : ¬ (k : Int) < m.n := by omega
   go_wp2
   go_ret
   exact ⟨rfl, HB0.out⟩
def rowAll (m : Md) (r : List O) : Bool := (List.range r.length).all fun q => (oAt r q).ok m.n m.h.length
set_option maxRecDepth 100000 in
set_option maxHeartbeats 4000000 in
theorem opsOk_any (x u : Value) (m : Md) (r : List O) (w : World) (hs : SmallM m) (hr : r.length ≤ 1048576) (h : IsM w x m) (hu : IsO w u r) :
  Calls Tryz.prog 65 #[x, u] w fun e w' => e = .returned (.bool (rowAll m r)) ∧ Below w.heap.size w w' := by
 have HX : Hid (IsM w x m) := h
 obtain ⟨vi, vh, vs, rfl, ⟨ai, ci, rfl, hi1, hi2, hi3⟩, ⟨ah, ch, rfl, hh1, hh2, hh3⟩, ⟨ae, ce, rfl, he1, he2, he3⟩⟩ := h
 have hi0 : m.i.length ≤ 1048576 := hs.i
 have hh0 : m.h.length ≤ 1048576 := hs.h
 have he0 : m.e.length ≤ 1048576 := hs.e
 have HS : Hid (SmallM m) := hs
 clear hs hi1 hi2 hh1 hh2 he1 he2
 clear hi3 hh3 he3 HS hi0 hh0 he0
 obtain ⟨a1, c1, rfl, _, _, hu⟩ := hu
 have HU : Hid (r = [] ∨ ∃ b off, a1 = some ⟨b, off, none⟩ ∧ OsAt w b off r) := hu
 have HOK : Hid (∀ b, ((List.range r.length).all fun q => (oAt r q).ok m.n m.h.length) = b → rowAll m r = b) := fun b e => e
 generalize rowAll m r = okv at HOK ⊢
 clear hu
 go_enter Tryz.func65, Tryz.ntmps65
 go_wp2
 go_loopw [9] (fun i wr => ∃ k : Nat, k ≤ r.length ∧ i = .int .i64 k ∧ (∀ j, j < k → (oAt r j).ok m.n m.h.length = true) ∧ Below w.heap.size w wr ∧ Bk wr w.heap.size 27 #[.int .i64 m.n, .int .i64 m.s, .slice ai m.i.length ci, .slice ah m.h.length ch, .slice ae m.e.length ce, .int .i64 m.z]) (fun i _ => r.length - (intOf i).toNat)
 case atStart => exact ⟨0, Nat.zero_le _, rfl, fun j hj => by omega, (Below.refl _ w).alloc (Nat.le_refl _) _, Bk.new w _ _⟩
 case round =>
  obtain ⟨k, hk, rfl, hall, hB, hP⟩ := hrel
  have HA : Hid (∀ j, j < k → (oAt r j).ok m.n m.h.length = true) := hall
  have HB0 : Hid (Below w.heap.size w wr) := hB
  have HP0 : Hid (Bk wr w.heap.size 27 #[.int .i64 m.n, .int .i64 m.s, .slice ai m.i.length ci, .slice ah m.h.length ch, .slice ae m.e.length ce, .int .i64 m.z]) := hP
  clear hall hP
  by_cases hlt : k < r.length
  ·obtain ⟨b, off, rfl, hb, hc⟩ := HU.out.resolve_left (by intro e; rw [e] at hlt; simp at hlt)
   obtain ⟨f0, f1, f2, f3⟩ := (hc k hlt).below hB hb
   clear hB hc
   generalize hev : oAt r k = e at f0 f1 f2 f3
   have HEV : Hid (oAt r k = e) := hev
   obtain ⟨c, a, b2, k2⟩ := e
   clear hev
   obtain ⟨V, hV⟩ : ∃ V, wr.alloc (.cells #[.int .i64 c, .int .i64 a, .int .i64 b2, .int .i64 k2] 39) = V := ⟨_, rfl⟩
   have hbV : Below wr.heap.size wr V := hV ▸ (Below.refl _ wr).alloc (Nat.le_refl _) _
   have HBV : Hid (Below w.heap.size w V) := HB0.out.trans (hbV.mono HB0.out.size)
   have HPV : Hid (Bk V w.heap.size 27 #[.int .i64 m.n, .int .i64 m.s, .slice ai m.i.length ci, .slice ah m.h.length ch, .slice ae m.e.length ce, .int .i64 m.z]) := HP0.out.below hbV
   have hQV : Bk V wr.heap.size 39 #[.int .i64 c, .int .i64 a, .int .i64 b2, .int .i64 k2] := hV ▸ Bk.new _ _ _
   have p0 := HPV.out.cell (i := 0) rfl
   have p1 := HPV.out.cell (i := 1) rfl
   have p2 := HPV.out.cell (i := 2) rfl
   have p3 := HPV.out.cell (i := 3) rfl
   have p4 := HPV.out.cell (i := 4) rfl
   have p5 := HPV.out.cell (i := 5) rfl
   have e0 := hQV.cell (i := 0) rfl
   have e1 := hQV.cell (i := 1) rfl
   have e2 := hQV.cell (i := 2) rfl
   have e3 := hQV.cell (i := 3) rfl
   clear hbV hQV HB0 HP0
   go_wp2_with fail
   clear f0 f1 f2 f3 e0 e1 e2 e3 p0 p1 p2 p3 p4 p5 hV
   refine (iOpM _ m _ _ _ _ _ (HX.out.below HBV.out)).mono ?_
   rintro e w2 ⟨rfl, hb2⟩
   have HB2 : Hid (Below w.heap.size w w2) := HBV.out.trans (hb2.mono HBV.out.size)
   have HP2 : Hid (Bk w2 w.heap.size 27 #[.int .i64 m.n, .int .i64 m.s, .slice ai m.i.length ci, .slice ah m.h.length ch, .slice ae m.e.length ce, .int .i64 m.z]) := HPV.out.below hb2
   clear hb2 HBV HPV
   cases hv : okO m.n (m.h.length : Int) c a b2 k2
   ·have hno : okv = false := HOK.out _ (range_no hlt (by rw [HEV.out]; exact hv))
    subst hno
    clear hv
    go_wp2
    go_ret
    exact ⟨rfl, HB2.out⟩
   ·have HV : Hid (okO m.n (m.h.length : Int) c a b2 k2 = true) := hv
    clear hv
    go_wp2
    go_roundw
    case rel => exact ⟨k + 1, by omega, by go_num, fun j hj => by
     by_cases e : j < k
     ·exact HA.out j e
     ·rw [show j = k by omega, HEV.out]; exact HV.out, HB2.out, HP2.out⟩
    case measure => simp [intOf]; omega
  ·have hyes : okv = true := HOK.out _ (range_yes (fun j hj => HA.out j (by omega)))
   subst hyes
   clear hB
   go_wp2
   go_ret
   exact ⟨rfl, HB0.out⟩
set_option maxRecDepth 100000 in
set_option maxHeartbeats 4000000 in
theorem handlersOk_any (x : Value) (m : Md) (w : World) (hs : SmallM m) (h : IsM w x m) :
  Calls Tryz.prog 33 #[x] w fun e w' => e = .returned (.bool (decide (1 ≤ m.h.length ∧ m.h.length ≤ 4) && m.okH)) ∧ Below w.heap.size w w' := by
 have HX : Hid (IsM w x m) := h
 obtain ⟨vi, vh, vs, rfl, ⟨ai, ci, rfl, hi1, hi2, hi3⟩, ⟨ah, ch, rfl, hh1, hh2, hh3⟩, ⟨ae, ce, rfl, he1, he2, he3⟩⟩ := h
 have hi0 : m.i.length ≤ 1048576 := hs.i
 have hh0 : m.h.length ≤ 1048576 := hs.h
 have he0 : m.e.length ≤ 1048576 := hs.e
 have HS : Hid (SmallM m) := hs
 clear hs hi1 hi2 hh1 hh2 he1 he2
 clear hi3 he3
 have HH : Hid (m.h = [] ∨ ∃ b off, ah = some ⟨b, off, none⟩ ∧ b < w.heap.size ∧ ∀ i, i < m.h.length → ∃ u, w.cell? ⟨b, off + i, none⟩ = some u ∧ IsO w u (hAt m.h i)) := hh3
 clear hh3
 obtain ⟨W0, hW0⟩ : ∃ W0, w.alloc (.cells #[.int .i64 m.n, .int .i64 m.s, .slice ai m.i.length ci, .slice ah m.h.length ch, .slice ae m.e.length ce, .int .i64 m.z] 27) = W0 := ⟨_, rfl⟩
 have HB0 : Hid (Below w.heap.size w W0) := by rw [← hW0]; exact (Below.refl _ w).alloc (Nat.le_refl _) _
 have HP0 : Hid (Bk W0 w.heap.size 27 #[.int .i64 m.n, .int .i64 m.s, .slice ai m.i.length ci, .slice ah m.h.length ch, .slice ae m.e.length ce, .int .i64 m.z]) := by rw [← hW0]; exact Bk.new w _ _
 have p0 := HP0.out.cell (i := 0) rfl
 have p1 := HP0.out.cell (i := 1) rfl
 have p2 := HP0.out.cell (i := 2) rfl
 have p3 := HP0.out.cell (i := 3) rfl
 have p4 := HP0.out.cell (i := 4) rfl
 have p5 := HP0.out.cell (i := 5) rfl
 by_cases c0 : 1 ≤ m.h.length ∧ m.h.length ≤ 4
 case neg =>
  have d0 : (decide ((1 : Int) ≤ (m.h.length : Int)) && decide ((m.h.length : Int) ≤ 4)) = false := by simp; omega
  have HC : Hid (¬ (1 ≤ m.h.length ∧ m.h.length ≤ 4)) := c0
  clear c0
  go_enter Tryz.func33, Tryz.ntmps33
  go_wp2_with fail
  refine (within_any _ _ _ _).mono ?_
  rintro e w2 ⟨rfl, hw⟩
  have hw' := hw.symm
  clear hw
  subst hw'
  rw [d0]
  clear d0
  go_wp2
  go_ret
  exact ⟨ret_bool (by rw [decide_eq_false HC.out]; rfl), HB0.out⟩
 have d0 : (decide ((1 : Int) ≤ (m.h.length : Int)) && decide ((m.h.length : Int) ≤ 4)) = true := by simp; omega
 have HOK : Hid (∀ b, m.okH = b → (decide (1 ≤ m.h.length ∧ m.h.length ≤ 4) && m.okH) = b) := fun b e => by rw [e, decide_eq_true c0]; simp
 generalize (decide (1 ≤ m.h.length ∧ m.h.length ≤ 4) && m.okH) = okv at HOK ⊢
 clear c0
 go_enter Tryz.func33, Tryz.ntmps33
 go_wp2_with fail
 refine (within_any _ _ _ _).mono ?_
 rintro e w2 ⟨rfl, hw⟩
 have hw' := hw.symm
 clear hw
 subst hw'
 rw [d0]
 clear d0
 go_wp2
 clear hW0 p0 p1 p2 p3 p4 p5
 go_loopw [13] (fun i wr => ∃ k : Nat, k ≤ m.h.length ∧ i = .int .i64 k ∧ (∀ j, j < k → rowB m (hAt m.h j) = true) ∧ Below w.heap.size w wr ∧ Bk wr w.heap.size 27 #[.int .i64 m.n, .int .i64 m.s, .slice ai m.i.length ci, .slice ah m.h.length ch, .slice ae m.e.length ce, .int .i64 m.z]) (fun i _ => m.h.length - (intOf i).toNat)
 case atStart => exact ⟨0, Nat.zero_le _, rfl, fun j hj => by omega, HB0.out, HP0.out⟩
 case round =>
  clear HB0 HP0
  obtain ⟨k, hk, rfl, hall, hB, hP⟩ := hrel
  have HA : Hid (∀ j, j < k → rowB m (hAt m.h j) = true) := hall
  have HB0 : Hid (Below w.heap.size w wr) := hB
  have HP0 : Hid (Bk wr w.heap.size 27 #[.int .i64 m.n, .int .i64 m.s, .slice ai m.i.length ci, .slice ah m.h.length ch, .slice ae m.e.length ce, .int .i64 m.z]) := hP
  clear hall hP
  have p0 := HP0.out.cell (i := 0) rfl
  have p1 := HP0.out.cell (i := 1) rfl
  have p2 := HP0.out.cell (i := 2) rfl
  have p3 := HP0.out.cell (i := 3) rfl
  have p4 := HP0.out.cell (i := 4) rfl
  have p5 := HP0.out.cell (i := 5) rfl
  by_cases hlt : k < m.h.length
  ·obtain ⟨b, off, rfl, hb, hc⟩ := HH.out.resolve_left (by intro e; rw [e] at hlt; simp at hlt)
   obtain ⟨u, f0, hu⟩ := hc k hlt
   replace f0 := (hB.cell (p := ⟨b, off + k, none⟩) hb).trans f0
   have HL : Hid ((hAt m.h k).length ≤ 1048576) := HS.out.r k
   have HU : Hid (IsO w u (hAt m.h k)) := hu
   obtain ⟨a1, c1, rfl, _, _, _⟩ := hu
   clear hB hc
   by_cases h8 : 8 < ((hAt m.h k).length : Int)
   ·have hno : okv = false := HOK.out _ (range_no hlt (by simp [rowB]; omega))
    subst hno
    go_wp2
    go_ret
    exact ⟨rfl, HB0.out⟩
   ·have HROW : Hid (∀ b, rowAll m (hAt m.h k) = b → rowB m (hAt m.h k) = b) := fun b e => by
     have : decide ((hAt m.h k).length ≤ 8) = true := by simp; omega
     unfold rowB
     rw [this, Bool.true_and]
     exact e
    go_wp2_with fail
    refine (opsOk_any _ _ m (hAt m.h k) _ HS.out HL.out (HX.out.below HB0.out) (HU.out.below HB0.out)).mono ?_
    rintro e w2 ⟨rfl, hb2⟩
    have HB2 : Hid (Below w.heap.size w w2) := HB0.out.trans (hb2.mono HB0.out.size)
    have HP2 : Hid (Bk w2 w.heap.size 27 #[.int .i64 m.n, .int .i64 m.s, .slice ai m.i.length ci, .slice (some ⟨b, off, none⟩) m.h.length ch, .slice ae m.e.length ce, .int .i64 m.z]) := HP0.out.below hb2
    clear hb2 HB0 HP0 f0 p0 p1 p2 p3 p4 p5
    cases hv : rowAll m (hAt m.h k)
    ·have hno : okv = false := HOK.out _ (range_no hlt (HROW.out _ hv))
     subst hno
     clear hv
     go_wp2
     go_ret
     exact ⟨rfl, HB2.out⟩
    ·have HV : Hid (rowB m (hAt m.h k) = true) := HROW.out _ hv
     clear hv
     go_wp2
     go_roundw
     case rel => exact ⟨k + 1, by omega, by go_num, fun j hj => by
      by_cases e : j < k
      ·exact HA.out j e
      ·rw [show j = k by omega]; exact HV.out, HB2.out, HP2.out⟩
     case measure => simp [intOf]; omega
  ·have hyes : okv = true := HOK.out _ (range_yes (fun j hj => HA.out j (by omega)))
   subst hyes
   clear hB
   go_wp2
   go_ret
   exact ⟨rfl, HB0.out⟩
end Go.Proofs.YtbljfphdghfkfaaGreatDoor

/- The program's ModelOk: the events that begin it. -/
namespace Go.Proofs.YtbljfphdghfkfaaGreatDoor
open Go.RowKit
def fitB (m : Md) (t d kk : Int) : Bool := decide (0 ≤ d ∧ d < m.n ∧ 0 ≤ kk ∧ kk < (m.h.length : Int) ∧ t ≤ m.z)
set_option maxRecDepth 100000 in
set_option maxHeartbeats 4000000 in
theorem fits_any (x : Value) (m : Md) (t s1 qq d kk v g : Int) (w : World) (h : IsM w x m) :
  Calls Tryz.prog 67 #[x, .agg #[.int .i64 t, .int .i64 s1, .int .i64 qq, .int .i64 d, .int .i64 kk, .int .i64 v, .int .i64 g]] w fun e w' => e = .returned (.bool (fitB m t d kk)) ∧ Below w.heap.size w w' := by
 obtain ⟨vi, vh, vs, rfl, ⟨ai, ci, rfl, hi1, hi2, hi3⟩, ⟨ah, ch, rfl, hh1, hh2, hh3⟩, ⟨ae, ce, rfl, he1, he2, he3⟩⟩ := h
 clear hi1 hi2 hh1 hh2 he1 he2 hi3 hh3 he3
 go_enter Tryz.func67, Tryz.ntmps67
 go_wp2_with (go_at_call 79; refine (place_any _ _ _).mono ?_; rintro e w2 ⟨rfl, hw⟩; have hw' := hw.symm; clear hw; subst hw')
 all_goals
  go_ret
  refine ⟨?_, ((Below.refl _ _).alloc (Nat.le_refl _) _).alloc (by simp) _⟩
  first | exact ret_bool (by unfold fitB; rw [Bool.eq_iff_iff]; (try simp only [Bool.and_eq_true]); simp only [decide_eq_true_eq]; omega) | exact ret_bool (by unfold fitB; simp; omega) | exact ret_bool (by unfold fitB; simp [*])
def begB (place s1 qq g : Int) : Bool := decide (s1 = -1 ∧ qq = place ∧ g = place)
set_option maxRecDepth 100000 in
set_option maxHeartbeats 4000000 in
theorem isStart_any (place t s1 qq d kk v g : Int) (w : World) :
  Calls Tryz.prog 68 #[.agg #[.int .i64 t, .int .i64 s1, .int .i64 qq, .int .i64 d, .int .i64 kk, .int .i64 v, .int .i64 g], .int .i64 place] w fun e w' => e = .returned (.bool (begB place s1 qq g)) ∧ Below w.heap.size w w' := by
 by_cases c0 : s1 = -1
 ·by_cases c1 : qq = place
  ·by_cases c2 : g = place
   all_goals
    go_enter Tryz.func68, Tryz.ntmps68
    go_wp2
    go_ret
    exact ⟨ret_bool (by simp [begB, *]), (Below.refl _ _).alloc (Nat.le_refl _) _⟩
  ·go_enter Tryz.func68, Tryz.ntmps68
   go_wp2
   go_ret
   exact ⟨ret_bool (by simp [begB, *]), (Below.refl _ _).alloc (Nat.le_refl _) _⟩
 ·go_enter Tryz.func68, Tryz.ntmps68
  go_wp2
  go_ret
  exact ⟨ret_bool (by simp [begB, *]), (Below.refl _ _).alloc (Nat.le_refl _) _⟩
theorem stB_parts (m : Md) (k : Nat) (t s1 qq d kk v g : Int) : stB m k ⟨t, s1, qq, d, kk, v, g⟩ = (okB t s1 qq d kk v g && (fitB m t d kk && begB (k : Int) s1 qq g)) := by
 unfold stB Ev.ok fitB begB okB
 rw [Bool.eq_iff_iff]
 simp only [Bool.and_eq_true, decide_eq_true_eq]
 omega
set_option maxRecDepth 100000 in
set_option maxHeartbeats 4000000 in
theorem startOk_any (x : Value) (m : Md) (w : World) (hs : SmallM m) (h : IsM w x m) :
  Calls Tryz.prog 34 #[x] w fun e w' => e = .returned (.bool (decide (m.e.length ≤ 6) && m.okE)) ∧ Below w.heap.size w w' := by
 have HX : Hid (IsM w x m) := h
 obtain ⟨vi, vh, vs, rfl, ⟨ai, ci, rfl, hi1, hi2, hi3⟩, ⟨ah, ch, rfl, hh1, hh2, hh3⟩, ⟨ae, ce, rfl, he1, he2, he3⟩⟩ := h
 have hi0 : m.i.length ≤ 1048576 := hs.i
 have hh0 : m.h.length ≤ 1048576 := hs.h
 have he0 : m.e.length ≤ 1048576 := hs.e
 have HS : Hid (SmallM m) := hs
 clear hs hi1 hi2 hh1 hh2 he1 he2
 clear hi3 hh3
 have HE : Hid (m.e = [] ∨ ∃ b off, ae = some ⟨b, off, none⟩ ∧ EvsAt w b off m.e) := he3
 clear he3
 obtain ⟨W0, hW0⟩ : ∃ W0, w.alloc (.cells #[.int .i64 m.n, .int .i64 m.s, .slice ai m.i.length ci, .slice ah m.h.length ch, .slice ae m.e.length ce, .int .i64 m.z] 27) = W0 := ⟨_, rfl⟩
 have HB0 : Hid (Below w.heap.size w W0) := by rw [← hW0]; exact (Below.refl _ w).alloc (Nat.le_refl _) _
 have HP0 : Hid (Bk W0 w.heap.size 27 #[.int .i64 m.n, .int .i64 m.s, .slice ai m.i.length ci, .slice ah m.h.length ch, .slice ae m.e.length ce, .int .i64 m.z]) := by rw [← hW0]; exact Bk.new w _ _
 have p0 := HP0.out.cell (i := 0) rfl
 have p1 := HP0.out.cell (i := 1) rfl
 have p2 := HP0.out.cell (i := 2) rfl
 have p3 := HP0.out.cell (i := 3) rfl
 have p4 := HP0.out.cell (i := 4) rfl
 have p5 := HP0.out.cell (i := 5) rfl
 by_cases c0 : 6 < (m.e.length : Int)
 case pos =>
  go_enter Tryz.func34, Tryz.ntmps34
  go_wp2
  go_ret
  exact ⟨ret_bool (by rw [decide_eq_false (by omega)]; rfl), HB0.out⟩
 have HOK : Hid (∀ b, m.okE = b → (decide (m.e.length ≤ 6) && m.okE) = b) := fun b e => by rw [e, decide_eq_true (by omega)]; simp
 generalize (decide (m.e.length ≤ 6) && m.okE) = okv at HOK ⊢
 go_enter Tryz.func34, Tryz.ntmps34
 go_wp2
 clear hW0 p0 p1 p2 p3 p4 p5
 go_loopw [12] (fun i wr => ∃ k : Nat, k ≤ m.e.length ∧ i = .int .i64 k ∧ (∀ j, j < k → stB m j (evAt m.e j) = true) ∧ Below w.heap.size w wr ∧ Bk wr w.heap.size 27 #[.int .i64 m.n, .int .i64 m.s, .slice ai m.i.length ci, .slice ah m.h.length ch, .slice ae m.e.length ce, .int .i64 m.z]) (fun i _ => m.e.length - (intOf i).toNat)
 case atStart => exact ⟨0, Nat.zero_le _, rfl, fun j hj => by omega, HB0.out, HP0.out⟩
 case round =>
  clear HB0 HP0
  obtain ⟨k, hk, rfl, hall, hB, hP⟩ := hrel
  have HA : Hid (∀ j, j < k → stB m j (evAt m.e j) = true) := hall
  have HB0 : Hid (Below w.heap.size w wr) := hB
  have HP0 : Hid (Bk wr w.heap.size 27 #[.int .i64 m.n, .int .i64 m.s, .slice ai m.i.length ci, .slice ah m.h.length ch, .slice ae m.e.length ce, .int .i64 m.z]) := hP
  clear hall hP
  by_cases hlt : k < m.e.length
  ·obtain ⟨b, off, rfl, hb, hc⟩ := HE.out.resolve_left (by intro e; rw [e] at hlt; simp at hlt)
   obtain ⟨f0, f1, f2, f3, f4, f5, f6⟩ := (hc k hlt).below hB hb
   clear hB hc
   generalize hev : evAt m.e k = e at f0 f1 f2 f3 f4 f5 f6
   have HEV : Hid (evAt m.e k = e) := hev
   obtain ⟨t, s1, qq, d, kk, v, g⟩ := e
   clear hev
   obtain ⟨V, hV⟩ : ∃ V, wr.alloc (.cells #[.int .i64 t, .int .i64 s1, .int .i64 qq, .int .i64 d, .int .i64 kk, .int .i64 v, .int .i64 g] 53) = V := ⟨_, rfl⟩
   have hbV : Below wr.heap.size wr V := hV ▸ (Below.refl _ wr).alloc (Nat.le_refl _) _
   have HBV : Hid (Below w.heap.size w V) := HB0.out.trans (hbV.mono HB0.out.size)
   have HPV : Hid (Bk V w.heap.size 27 #[.int .i64 m.n, .int .i64 m.s, .slice ai m.i.length ci, .slice ah m.h.length ch, .slice (some ⟨b, off, none⟩) m.e.length ce, .int .i64 m.z]) := HP0.out.below hbV
   have HQV : Hid (Bk V wr.heap.size 53 #[.int .i64 t, .int .i64 s1, .int .i64 qq, .int .i64 d, .int .i64 kk, .int .i64 v, .int .i64 g]) := hV ▸ Bk.new _ _ _
   have p0 := HPV.out.cell (i := 0) rfl
   have p1 := HPV.out.cell (i := 1) rfl
   have p2 := HPV.out.cell (i := 2) rfl
   have p3 := HPV.out.cell (i := 3) rfl
   have p4 := HPV.out.cell (i := 4) rfl
   have p5 := HPV.out.cell (i := 5) rfl
   have e0 := HQV.out.cell (i := 0) rfl
   have e1 := HQV.out.cell (i := 1) rfl
   have e2 := HQV.out.cell (i := 2) rfl
   have e3 := HQV.out.cell (i := 3) rfl
   have e4 := HQV.out.cell (i := 4) rfl
   have e5 := HQV.out.cell (i := 5) rfl
   have e6 := HQV.out.cell (i := 6) rfl
   clear hbV HB0 HP0
   go_wp2_with fail
   clear f0 f1 f2 f3 f4 f5 f6 e0 e1 e2 e3 e4 e5 e6 p0 p1 p2 p3 p4 p5 hV
   refine (iOk_any _ _ _ _ _ _ _ _).mono ?_
   rintro e w2 ⟨rfl, hb2⟩
   have HB2 : Hid (Below w.heap.size w w2) := HBV.out.trans (hb2.mono HBV.out.size)
   have HP2 : Hid (Bk w2 w.heap.size 27 #[.int .i64 m.n, .int .i64 m.s, .slice ai m.i.length ci, .slice ah m.h.length ch, .slice (some ⟨b, off, none⟩) m.e.length ce, .int .i64 m.z]) := HPV.out.below hb2
   have HQ2 : Hid (Bk w2 wr.heap.size 53 #[.int .i64 t, .int .i64 s1, .int .i64 qq, .int .i64 d, .int .i64 kk, .int .i64 v, .int .i64 g]) := HQV.out.below hb2
   clear hb2 HBV HPV HQV
   have HST : Hid (stB m k (evAt m.e k) = (okB t s1 qq d kk v g && (fitB m t d kk && begB (k : Int) s1 qq g))) := HEV.out ▸ stB_parts m k t s1 qq d kk v g
   cases hokb : okB t s1 qq d kk v g
   ·have hno := HOK.out _ (range_no hlt (by rw [HST.out, hokb]; rfl))
    subst hno
    clear hokb
    have p0 := HP2.out.cell (i := 0) rfl
    have p1 := HP2.out.cell (i := 1) rfl
    have p2 := HP2.out.cell (i := 2) rfl
    have p3 := HP2.out.cell (i := 3) rfl
    have p4 := HP2.out.cell (i := 4) rfl
    have p5 := HP2.out.cell (i := 5) rfl
    have e0 := HQ2.out.cell (i := 0) rfl
    have e1 := HQ2.out.cell (i := 1) rfl
    have e2 := HQ2.out.cell (i := 2) rfl
    have e3 := HQ2.out.cell (i := 3) rfl
    have e4 := HQ2.out.cell (i := 4) rfl
    have e5 := HQ2.out.cell (i := 5) rfl
    have e6 := HQ2.out.cell (i := 6) rfl
    go_wp2
    go_ret
    exact ⟨rfl, HB2.out⟩
   ·have HOB : Hid (okB t s1 qq d kk v g = true) := hokb
    clear hokb
    have p0 := HP2.out.cell (i := 0) rfl
    have p1 := HP2.out.cell (i := 1) rfl
    have p2 := HP2.out.cell (i := 2) rfl
    have p3 := HP2.out.cell (i := 3) rfl
    have p4 := HP2.out.cell (i := 4) rfl
    have p5 := HP2.out.cell (i := 5) rfl
    have e0 := HQ2.out.cell (i := 0) rfl
    have e1 := HQ2.out.cell (i := 1) rfl
    have e2 := HQ2.out.cell (i := 2) rfl
    have e3 := HQ2.out.cell (i := 3) rfl
    have e4 := HQ2.out.cell (i := 4) rfl
    have e5 := HQ2.out.cell (i := 5) rfl
    have e6 := HQ2.out.cell (i := 6) rfl
    go_wp2_with fail
    clear e0 e1 e2 e3 e4 e5 e6 p0 p1 p2 p3 p4 p5
    refine (fits_any _ m _ _ _ _ _ _ _ _ (HX.out.below HB2.out)).mono ?_
    rintro e w3 ⟨rfl, hb3⟩
    have HB3 : Hid (Below w.heap.size w w3) := HB2.out.trans (hb3.mono HB2.out.size)
    have HP3 : Hid (Bk w3 w.heap.size 27 #[.int .i64 m.n, .int .i64 m.s, .slice ai m.i.length ci, .slice ah m.h.length ch, .slice (some ⟨b, off, none⟩) m.e.length ce, .int .i64 m.z]) := HP2.out.below hb3
    have HQ3 : Hid (Bk w3 wr.heap.size 53 #[.int .i64 t, .int .i64 s1, .int .i64 qq, .int .i64 d, .int .i64 kk, .int .i64 v, .int .i64 g]) := HQ2.out.below hb3
    clear hb3 HB2 HP2 HQ2
    cases hfit : fitB m t d kk
    ·have hno := HOK.out _ (range_no hlt (by rw [HST.out, hfit]; simp))
     subst hno
     clear hfit
     have e0 := HQ3.out.cell (i := 0) rfl
     have e1 := HQ3.out.cell (i := 1) rfl
     have e2 := HQ3.out.cell (i := 2) rfl
     have e3 := HQ3.out.cell (i := 3) rfl
     have e4 := HQ3.out.cell (i := 4) rfl
     have e5 := HQ3.out.cell (i := 5) rfl
     have e6 := HQ3.out.cell (i := 6) rfl
     go_wp2
     go_ret
     exact ⟨rfl, HB3.out⟩
    ·have HFI : Hid (fitB m t d kk = true) := hfit
     clear hfit
     have e0 := HQ3.out.cell (i := 0) rfl
     have e1 := HQ3.out.cell (i := 1) rfl
     have e2 := HQ3.out.cell (i := 2) rfl
     have e3 := HQ3.out.cell (i := 3) rfl
     have e4 := HQ3.out.cell (i := 4) rfl
     have e5 := HQ3.out.cell (i := 5) rfl
     have e6 := HQ3.out.cell (i := 6) rfl
     go_wp2_with fail
     clear e0 e1 e2 e3 e4 e5 e6
     refine (isStart_any _ _ _ _ _ _ _ _ _).mono ?_
     rintro e w4 ⟨rfl, hb4⟩
     have HB4 : Hid (Below w.heap.size w w4) := HB3.out.trans (hb4.mono HB3.out.size)
     have HP4 : Hid (Bk w4 w.heap.size 27 #[.int .i64 m.n, .int .i64 m.s, .slice ai m.i.length ci, .slice ah m.h.length ch, .slice (some ⟨b, off, none⟩) m.e.length ce, .int .i64 m.z]) := HP3.out.below hb4
     clear hb4 HB3 HP3 HQ3
     cases hbeg : begB (k : Int) s1 qq g
     ·have hno := HOK.out _ (range_no hlt (by rw [HST.out, hbeg]; simp))
      subst hno
      clear hbeg
      go_wp2
      go_ret
      exact ⟨rfl, HB4.out⟩
     ·have HV : Hid (stB m k (evAt m.e k) = true) := by rw [HST.out, HOB.out, HFI.out, hbeg]; rfl
      clear hbeg
      go_wp2
      go_roundw
      case rel => exact ⟨k + 1, by omega, by go_num, fun j hj => by
       by_cases e : j < k
       ·exact HA.out j e
       ·rw [show j = k by omega]; exact HV.out, HB4.out, HP4.out⟩
      case measure => simp [intOf]; omega
  ·have hyes : okv = true := HOK.out _ (range_yes (fun j hj => HA.out j (by omega)))
   subst hyes
   clear hB
   go_wp2
   go_ret
   exact ⟨rfl, HB0.out⟩
end Go.Proofs.YtbljfphdghfkfaaGreatDoor

