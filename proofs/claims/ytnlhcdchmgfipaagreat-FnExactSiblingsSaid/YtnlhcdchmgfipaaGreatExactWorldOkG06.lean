/- KKr, WSz, WDat -/
import Derived.Test.YtnlhcdchmgfipaaGreatExactWorldOkG05
import Derived.Test.YtnlhcdchmgfipaaGreatExactWorldOkG03
/- A kernel, as plain values and in memory; how much there is of it. -/
namespace Go.Proofs.YtnlhcdchmgfipaaGreat
open Go.RowKit
structure Kn where
 m : Md
 d : List Int
 p : List Pa
 b : List Ml
 t : Int
 q : Int
 f : Bool
 s : List Ev
 x : List Em
def Kn.wt (k : Kn) : Nat := (intsD k.d).wt + (partsD k.p).wt + (mailsD k.b).wt + (evsD k.s).wt + (emsD k.x).wt
def SmallK (k : Kn) : Prop := SmallM k.m ∧ k.wt ≤ 1048576
def IsKern (w : World) (x : Value) (k : Kn) : Prop := ∃ vi vh vs u6 u7 u8 u12 u13, x = .agg #[.int .i64 k.m.n, .int .i64 k.m.s, vi, vh, vs, .int .i64 k.m.z, u6, u7, u8, .int .i64 k.t, .int .i64 k.q, .bool k.f, u12, u13] ∧ IsM w (.agg #[.int .i64 k.m.n, .int .i64 k.m.s, vi, vh, vs, .int .i64 k.m.z]) k.m ∧ IsD w u6 (intsD k.d) ∧ IsD w u7 (partsD k.p) ∧ IsD w u8 (mailsD k.b) ∧ IsD w u12 (evsD k.s) ∧ IsD w u13 (emsD k.x)
theorem IsKern.under {w w' : World} {x : Value} {k : Kn} (h : IsKern w x k) (hb : Below w.heap.size w w') : IsKern w' x k := by
 obtain ⟨vi, vh, vs, u6, u7, u8, u12, u13, rfl, hm, h6, h7, h8, h12, h13⟩ := h
 exact ⟨vi, vh, vs, u6, u7, u8, u12, u13, rfl, hm.below hb, h6.under hb, h7.under hb, h8.under hb, h12.under hb, h13.under hb⟩
end Go.Proofs.YtnlhcdchmgfipaaGreat

/- szModel, szKernel: from any number on. -/
namespace Go.Proofs.YtnlhcdchmgfipaaGreat
open Go.RowKit
theorem hidWSz {p : Prop} (h : p) : Hid p := h
set_option maxHeartbeats 2000000 in
theorem szModel_gen (x : Value) (m : Md) (left : Int) (w : World) (hl0 : 0 ≤ left) (hl1 : left ≤ 1048576) (h : IsM w x m) :
  Calls Tryz.prog 46 #[x, .int .i64 left] w fun e w' => (∃ r, e = .returned (.int .i64 r) ∧ (r = -1 ∨ (0 ≤ r ∧ r ≤ left ∧ SmallM m))) ∧ Below w.heap.size w w' := by
 obtain ⟨vi, vh, vs, rfl, h1, h2, h3⟩ := h
 obtain ⟨n, s, i, hh, ev, z⟩ := m
 have HH : Hid (IsH w vh hh) := h2
 obtain ⟨a1, c1, rfl, hi1, hi2, _⟩ := h1
 obtain ⟨a3, c3, rfl, he1, he2, _⟩ := h3
 have HI : Hid (i.length ≤ maxLen) := Nat.le_trans hi1 hi2
 have HE : Hid (ev.length ≤ maxLen) := Nat.le_trans he1 he2
 clear h2 hi1 hi2 he1 he2
 obtain ⟨W0, hW0⟩ : ∃ W0, w.alloc (.cells #[.int .i64 n, .int .i64 s, .slice a1 i.length c1, vh, .slice a3 ev.length c3, .int .i64 z] 26) = W0 := ⟨_, rfl⟩
 have HB0 : Hid (Below w.heap.size w W0) := by rw [← hW0]; exact (Below.refl _ w).alloc (Nat.le_refl _) _
 have HP0 : Bk W0 w.heap.size 26 #[.int .i64 n, .int .i64 s, .slice a1 i.length c1, vh, .slice a3 ev.length c3, .int .i64 z] := by rw [← hW0]; exact Bk.new w _ _
 have p2 := HP0.cell (i := 2) rfl
 have p3 := HP0.cell (i := 3) rfl
 have p4 := HP0.cell (i := 4) rfl
 clear HP0
 have go : ∀ q : Int, q = szN i.length left → q = -1 ∨ (0 ≤ q ∧ q ≤ left ∧ i.length ≤ 1048576) := by
  intro q hq
  unfold szN at hq
  split at hq <;> omega
 go_enter Tryz.func46, Tryz.ntmps46
 go_wp2_with fail
 refine (szI_any _ _ _ _ _ HI.out (by omega) (by omega)).mono ?_
 rintro e w' ⟨rfl, hw⟩
 have hw' := hw.symm
 clear hw
 subst hw'
 clear hW0
 generalize hq : szN i.length left = q
 rcases go q hq.symm with rfl | ⟨q0, q1, q2⟩
 ·clear go hq
  go_wp2
  go_ret
  exact ⟨⟨_, rfl, .inl rfl⟩, HB0.out⟩
 ·have HQ : Hid (i.length ≤ 1048576) := q2
  have q3 : ¬ (q < 0) := by omega
  clear go hq q2
  go_wp2_with fail
  refine (szH_any _ hh _ _ (HH.out.below HB0.out) q0 (by omega)).mono ?_
  rintro e w' ⟨⟨r, rfl, hr⟩, hw⟩
  have hw' := hw.symm
  clear hw
  subst hw'
  rcases hr with rfl | ⟨r0, r1, r2, r3, r4⟩
  ·go_wp2
   go_ret
   exact ⟨⟨_, rfl, .inl rfl⟩, HB0.out⟩
  ·have r5 : ¬ (r < 0) := by omega
   have r6 : r ≤ 1048576 := by omega
   have HR6 : Hid (r ≤ left) := (by omega : r ≤ left)
   have HR : Hid ((hh.length : Int) ≤ 1048576 ∧ (∀ i, (hAt hh i).length ≤ 1048576) ∧ sumL (lens hh) hh.length ≤ 1048576) := ⟨r2, r3, r4⟩
   clear r1 r2 r3 r4
   go_wp2_with fail
   refine (szE_any _ _ _ _ _ HE.out r0 r6).mono ?_
   rintro e w' ⟨rfl, hw⟩
   have hw' := hw.symm
   clear hw
   subst hw'
   generalize hq : szN ev.length r = t
   have ht : t = -1 ∨ (0 ≤ t ∧ t ≤ left ∧ ev.length ≤ 1048576) := by
    have hr6 := HR6.out
    unfold szN at hq
    split at hq <;> omega
   clear hq
   rcases ht with rfl | ⟨t0, t9, t1⟩
   ·go_wp2
    go_ret
    exact ⟨⟨_, rfl, .inl rfl⟩, HB0.out⟩
   ·have t2 : ¬ (t < 0) := by omega
    go_wp2
    go_ret
    exact ⟨⟨_, rfl, .inr ⟨t0, t9, HQ.out, by have := HR.out.1; show hh.length ≤ 1048576; omega, HR.out.2.1, HR.out.2.2, t1⟩⟩, HB0.out⟩
set_option maxRecDepth 100000 in
set_option maxHeartbeats 4000000 in
theorem szKernel_gen (x : Value) (k : Kn) (left : Int) (w : World) (hl0 : 0 ≤ left) (hl1 : left ≤ 1048576) (h : IsKern w x k) :
  Calls Tryz.prog 13 #[x, .int .i64 left] w fun e w' => (∃ r, e = .returned (.int .i64 r) ∧ (r = -1 ∨ (0 ≤ r ∧ r ≤ left ∧ SmallK k))) ∧ Below w.heap.size w w' := by
 obtain ⟨vi, vh, vs, u6, u7, u8, u12, u13, rfl, hm, h6, h7, h8, h12, h13⟩ := h
 have HM := hidWSz hm
 have H6 := hidWSz h6
 have H7 := hidWSz h7
 have H8 := hidWSz h8
 have H12 := hidWSz h12
 have H13 := hidWSz h13
 clear hm h6 h7 h8 h12 h13
 obtain ⟨W0, hW0⟩ : ∃ W0, w.alloc (.cells #[.int .i64 k.m.n, .int .i64 k.m.s, vi, vh, vs, .int .i64 k.m.z, u6, u7, u8, .int .i64 k.t, .int .i64 k.q, .bool k.f, u12, u13] 31) = W0 := ⟨_, rfl⟩
 have HB0 : Hid (Below w.heap.size w W0) := by rw [← hW0]; exact (Below.refl _ w).alloc (Nat.le_refl _) _
 have HP0 : Hid (Bk W0 w.heap.size 31 #[.int .i64 k.m.n, .int .i64 k.m.s, vi, vh, vs, .int .i64 k.m.z, u6, u7, u8, .int .i64 k.t, .int .i64 k.q, .bool k.f, u12, u13]) := by rw [← hW0]; exact Bk.new w _ _
 have HW := hidWSz hW0
 clear hW0
 go_enter Tryz.func13, Tryz.ntmps13
 have p0 := HP0.out.cell (i := 0) rfl
 have p1 := HP0.out.cell (i := 1) rfl
 have p2 := HP0.out.cell (i := 2) rfl
 have p3 := HP0.out.cell (i := 3) rfl
 have p4 := HP0.out.cell (i := 4) rfl
 have p5 := HP0.out.cell (i := 5) rfl
 go_wp2_with fail
 rw [HW.out]
 clear HW p0 p1 p2 p3 p4 p5
 refine (szModel_gen _ k.m left _ hl0 hl1 (HM.out.below HB0.out)).mono ?_
 rintro e w1 ⟨⟨r1, rfl, hr⟩, hb⟩
 have HB1 := hidWSz (HB0.out.trans (hb.mono HB0.out.size))
 have HP1 := hidWSz (HP0.out.below hb)
 clear hb
 rcases hr with rfl | ⟨r10, r11, hsm⟩
 ·go_wp2
  go_ret
  exact ⟨⟨_, rfl, .inl rfl⟩, HB1.out⟩
 have HSM : Hid (SmallM k.m) := hsm
 have HE1 : Hid (r1 ≤ left) := r11
 have r119 : r1 ≤ 1048576 := by omega
 clear r11
 have r11 := r119
 clear r119
 have r12 : ¬ (r1 < 0) := by omega
 clear hsm
 have p6 := HP1.out.cell (i := 6) rfl
 go_wp2_with fail
 clear p6
 refine (sz_ints _ k.d _ _ r10 r11 (H6.out.under HB1.out)).mono ?_
 rintro e w2 ⟨⟨r2, rfl, hr⟩, hb⟩
 have HB2 := hidWSz (HB1.out.trans (hb.mono HB1.out.size))
 have HP2 := hidWSz (HP1.out.below hb)
 clear hb
 rcases hr with rfl | ⟨r20, hr⟩
 ·go_wp2
  go_ret
  exact ⟨⟨_, rfl, .inl rfl⟩, HB2.out⟩
 have r21 : r2 ≤ 1048576 := by omega
 have r22 : ¬ (r2 < 0) := by omega
 have HE2 := hidWSz hr
 clear hr r12
 have p7 := HP2.out.cell (i := 7) rfl
 go_wp2_with fail
 clear p7
 refine (sz_parts _ k.p _ _ r20 r21 (H7.out.under HB2.out)).mono ?_
 rintro e w3 ⟨⟨r3, rfl, hr⟩, hb⟩
 have HB3 := hidWSz (HB2.out.trans (hb.mono HB2.out.size))
 have HP3 := hidWSz (HP2.out.below hb)
 clear hb
 rcases hr with rfl | ⟨r30, hr⟩
 ·go_wp2
  go_ret
  exact ⟨⟨_, rfl, .inl rfl⟩, HB3.out⟩
 have r31 : r3 ≤ 1048576 := by omega
 have r32 : ¬ (r3 < 0) := by omega
 have HE3 := hidWSz hr
 clear hr r22
 have p8 := HP3.out.cell (i := 8) rfl
 go_wp2_with fail
 clear p8
 refine (sz_mails _ k.b _ _ r30 r31 (H8.out.under HB3.out)).mono ?_
 rintro e w4 ⟨⟨r4, rfl, hr⟩, hb⟩
 have HB4 := hidWSz (HB3.out.trans (hb.mono HB3.out.size))
 have HP4 := hidWSz (HP3.out.below hb)
 clear hb
 rcases hr with rfl | ⟨r40, hr⟩
 ·go_wp2
  go_ret
  exact ⟨⟨_, rfl, .inl rfl⟩, HB4.out⟩
 have r41 : r4 ≤ 1048576 := by omega
 have r42 : ¬ (r4 < 0) := by omega
 have HE4 := hidWSz hr
 clear hr r32
 have p12 := HP4.out.cell (i := 12) rfl
 go_wp2_with fail
 clear p12
 refine (sz_evs _ k.s _ _ r40 r41 (H12.out.under HB4.out)).mono ?_
 rintro e w5 ⟨⟨r5, rfl, hr⟩, hb⟩
 have HB5 := hidWSz (HB4.out.trans (hb.mono HB4.out.size))
 have HP5 := hidWSz (HP4.out.below hb)
 clear hb
 rcases hr with rfl | ⟨r50, hr⟩
 ·go_wp2
  go_ret
  exact ⟨⟨_, rfl, .inl rfl⟩, HB5.out⟩
 have r51 : r5 ≤ 1048576 := by omega
 have r52 : ¬ (r5 < 0) := by omega
 have HE5 := hidWSz hr
 clear hr r42
 have p13 := HP5.out.cell (i := 13) rfl
 go_wp2_with fail
 clear p13
 refine (sz_ems _ k.x _ _ r50 r51 (H13.out.under HB5.out)).mono ?_
 rintro e w6 ⟨⟨r6, rfl, hr⟩, hb⟩
 have HB6 := hidWSz (HB5.out.trans (hb.mono HB5.out.size))
 have HP6 := hidWSz (HP5.out.below hb)
 clear hb
 rcases hr with rfl | ⟨r60, hr⟩
 ·go_wp2
  go_ret
  exact ⟨⟨_, rfl, .inl rfl⟩, HB6.out⟩
 have r61 : r6 ≤ 1048576 := by omega
 have r62 : ¬ (r6 < 0) := by omega
 have HE6 := hidWSz hr
 clear hr r52
 go_wp2
 go_ret
 have e1 := HE1.out
 have e2 := HE2.out
 have e3 := HE3.out
 have e4 := HE4.out
 have e5 := HE5.out
 have e6 := HE6.out
 refine ⟨⟨_, rfl, .inr ⟨r60, by omega, HSM.out, ?_⟩⟩, HB6.out⟩
 unfold Kn.wt
 omega
end Go.Proofs.YtnlhcdchmgfipaaGreat

/- A world, as plain values and in memory; how much there is of it. -/
namespace Go.Proofs.YtnlhcdchmgfipaaGreat
open Go.RowKit
theorem hidWDat {p : Prop} (h : p) : Hid p := h
def kn0 : Kn := ⟨⟨0, 0, [], [], [], 0⟩, [], [], [], 0, 0, false, [], []⟩
def knAt (l : List Kn) (i : Nat) : Kn := l.getD i kn0
def vAt (l : List (List Int)) (i : Nat) : List Int := l.getD i []
def vecsD_f (l : List (List Int)) : Nat → Dat := fun j => intsD (vAt l j)
def vecsD (l : List (List Int)) : Dat := .row 1 l.length (vecsD_f l)
structure Wd where
 m : Md
 k : List Kn
 c : List (List Int)
def KAt (w : World) (b off : Nat) (k : Kn) : Prop := ∃ vi vh vs u6 u7 u8 u12 u13, (w.cell? ⟨b, off, none⟩ = some (.int .i64 k.m.n) ∧ w.cell? ⟨b, off + 1, none⟩ = some (.int .i64 k.m.s) ∧ w.cell? ⟨b, off + 2, none⟩ = some (vi) ∧ w.cell? ⟨b, off + 3, none⟩ = some (vh) ∧ w.cell? ⟨b, off + 4, none⟩ = some (vs) ∧ w.cell? ⟨b, off + 5, none⟩ = some (.int .i64 k.m.z) ∧ w.cell? ⟨b, off + 6, none⟩ = some (u6) ∧ w.cell? ⟨b, off + 7, none⟩ = some (u7) ∧ w.cell? ⟨b, off + 8, none⟩ = some (u8) ∧ w.cell? ⟨b, off + 9, none⟩ = some (.int .i64 k.t) ∧ w.cell? ⟨b, off + 10, none⟩ = some (.int .i64 k.q) ∧ w.cell? ⟨b, off + 11, none⟩ = some (.bool k.f) ∧ w.cell? ⟨b, off + 12, none⟩ = some (u12) ∧ w.cell? ⟨b, off + 13, none⟩ = some (u13)) ∧ IsKern w (.agg #[.int .i64 k.m.n, .int .i64 k.m.s, vi, vh, vs, .int .i64 k.m.z, u6, u7, u8, .int .i64 k.t, .int .i64 k.q, .bool k.f, u12, u13]) k
theorem KAt.under {w w' : World} {b off : Nat} {k : Kn} (h : KAt w b off k) (hlt : b < w.heap.size) (hb : Below w.heap.size w w') : KAt w' b off k := by
 obtain ⟨vi, vh, vs, u6, u7, u8, u12, u13, ⟨f0, f1, f2, f3, f4, f5, f6, f7, f8, f9, f10, f11, f12, f13⟩, hk⟩ := h
 exact ⟨vi, vh, vs, u6, u7, u8, u12, u13, ⟨(hb.cell (p := ⟨b, _, none⟩) hlt).trans f0, (hb.cell (p := ⟨b, _, none⟩) hlt).trans f1, (hb.cell (p := ⟨b, _, none⟩) hlt).trans f2, (hb.cell (p := ⟨b, _, none⟩) hlt).trans f3, (hb.cell (p := ⟨b, _, none⟩) hlt).trans f4, (hb.cell (p := ⟨b, _, none⟩) hlt).trans f5, (hb.cell (p := ⟨b, _, none⟩) hlt).trans f6, (hb.cell (p := ⟨b, _, none⟩) hlt).trans f7, (hb.cell (p := ⟨b, _, none⟩) hlt).trans f8, (hb.cell (p := ⟨b, _, none⟩) hlt).trans f9, (hb.cell (p := ⟨b, _, none⟩) hlt).trans f10, (hb.cell (p := ⟨b, _, none⟩) hlt).trans f11, (hb.cell (p := ⟨b, _, none⟩) hlt).trans f12, (hb.cell (p := ⟨b, _, none⟩) hlt).trans f13⟩, hk.under hb⟩
def IsKs (w : World) (x : Value) (l : List Kn) : Prop := ∃ a cap, x = .slice a l.length cap ∧ l.length ≤ cap ∧ cap ≤ maxLen ∧ (l.length = 0 ∨ ∃ b off, a = some ⟨b, off, none⟩ ∧ b < w.heap.size ∧ ∀ i, i < l.length → KAt w b (off + i * 14) (knAt l i))
theorem IsKs.under {w w' : World} {x : Value} {l : List Kn} (h : IsKs w x l) (hb : Below w.heap.size w w') : IsKs w' x l := by
 obtain ⟨a, cap, rfl, h1, h2, h⟩ := h
 refine ⟨a, cap, rfl, h1, h2, h.imp id ?_⟩
 rintro ⟨b, off, rfl, hlt, hk⟩
 exact ⟨b, off, rfl, Nat.lt_of_lt_of_le hlt hb.size, fun i hi => (hk i hi).under hlt hb⟩
def IsW (w : World) (x : Value) (v : Wd) : Prop := ∃ vi vh vs uk uc, x = .agg #[.int .i64 v.m.n, .int .i64 v.m.s, vi, vh, vs, .int .i64 v.m.z, uk, uc] ∧ IsM w (.agg #[.int .i64 v.m.n, .int .i64 v.m.s, vi, vh, vs, .int .i64 v.m.z]) v.m ∧ IsKs w uk v.k ∧ IsD w uc (vecsD v.c)
theorem IsW.under {w w' : World} {x : Value} {v : Wd} (h : IsW w x v) (hb : Below w.heap.size w w') : IsW w' x v := by
 obtain ⟨vi, vh, vs, uk, uc, rfl, h1, h2, h3⟩ := h
 exact ⟨vi, vh, vs, uk, uc, rfl, h1.below hb, h2.under hb, h3.under hb⟩
def SmallKs (l : List Kn) : Prop := l.length ≤ 1048576 ∧ ∀ i, i < l.length → SmallK (knAt l i)
def SmallWd (v : Wd) : Prop := SmallM v.m ∧ SmallKs v.k ∧ (vecsD v.c).wt ≤ 1048576
theorem vecs_wt (l : List (List Int)) : (vecsD l).wt = l.length + sumL (fun i => (intsD (vAt l i)).wt) l.length := by
 show l.length + sumL (fun j => (vecsD_f l j).wt) (l.length * 1) = _
 rw [Nat.mul_one]
 rfl
theorem vec_le {l : List (List Int)} {i : Nat} (h : i < l.length) : (vAt l i).length ≤ (vecsD l).wt := by
 rw [vecs_wt]
 have := sumL_mem (fun i => (intsD (vAt l i)).wt) h
 have h2 : (intsD (vAt l i)).wt = (vAt l i).length := ints_wt _
 omega
set_option maxHeartbeats 4000000 in
theorem sz_kernels (x : Value) (l : List Kn) (left : Int) (w : World) (h0 : 0 ≤ left) (h1 : left ≤ 1048576) (h : IsKs w x l) :
  Calls Tryz.prog 81 #[x, .int .i64 left] w fun e w' => (∃ r, e = .returned (.int .i64 r) ∧ (r = -1 ∨ (0 ≤ r ∧ r ≤ left ∧ SmallKs l))) ∧ Below w.heap.size w w' := by
 obtain ⟨a, cap, rfl, hn1, hn, h⟩ := h
 have hn2 : l.length ≤ 9223372036854775807 := by unfold maxLen at hn; omega
 clear hn1 hn
 by_cases hp : left - (l.length : Int) < 0
 ·go_enter Tryz.func81, Tryz.ntmps81
  go_wp2
  go_ret
  exact ⟨⟨_, rfl, .inl rfl⟩, Below.refl _ _⟩
 ·have HLF : Hid (0 ≤ left - (l.length : Int)) := (by omega : 0 ≤ left - (l.length : Int))
  go_enter Tryz.func81, Tryz.ntmps81
  go_wp2
  go_loopw [5, 1] (fun i z wr => ∃ k : Nat, k ≤ l.length ∧ i = .int .i64 k ∧ Below w.heap.size w wr ∧ ∃ lf : Int, z = .int .i64 lf ∧ 0 ≤ lf ∧ lf ≤ left ∧ ∀ j, j < k → SmallK (knAt l j)) (fun i _ _ => l.length - (intOf i).toNat)
  case atStart => exact ⟨0, Nat.zero_le _, rfl, Below.refl _ _, left - (l.length : Int), rfl, HLF.out, by omega, fun j hj => by omega⟩
  case round =>
   obtain ⟨k, hk, rfl, hB, lf2, rfl, hz0, hz1, hz3⟩ := hrel
   have HZ : Hid (lf2 ≤ left ∧ ∀ j, j < k → SmallK (knAt l j)) := ⟨hz1, hz3⟩
   have HB := hidWDat hB
   have hz2 : lf2 ≤ 1048576 := by omega
   clear hz1 hz3
   by_cases hlt : k < l.length
   ·obtain ⟨b, off, rfl, hb, hc⟩ := h.resolve_left (by omega)
    obtain ⟨vi, vh, vs, u6, u7, u8, u12, u13, ⟨f0, f1, f2, f3, f4, f5, f6, f7, f8, f9, f10, f11, f12, f13⟩, hD⟩ := (hc k hlt).under hb hB
    have HD := hidWDat hD
    clear h hc hB hD
    go_wp2_with fail
    clear f0 f1 f2 f3 f4 f5 f6 f7 f8 f9 f10 f11 f12 f13
    refine (szKernel_gen _ (knAt l k) _ _ hz0 hz2 HD.out).mono ?_
    rintro e w2 ⟨⟨r, rfl, hr⟩, hb2⟩
    have HB2 := hidWDat (HB.out.trans (hb2.mono HB.out.size))
    clear hb2
    rcases hr with rfl | ⟨r0, hr, hsk⟩
    ·go_wp2
     go_ret
     exact ⟨⟨_, rfl, .inl rfl⟩, HB2.out⟩
    ·have HR : Hid (r ≤ lf2 ∧ SmallK (knAt l k)) := ⟨hr, hsk⟩
     have r2 : ¬ (r < 0) := by omega
     clear hr hsk
     go_wp2
     go_roundw
     case rel =>
      refine ⟨k + 1, by omega, by go_num, HB2.out, r, rfl, r0, by have := HR.out.1; have := HZ.out.1; omega, fun j hj => ?_⟩
      by_cases hjk : j < k
      ·exact HZ.out.2 j hjk
      ·obtain rfl : j = k := by omega
       exact HR.out.2
     case measure => simp [intOf]; omega
   ·clear h hB
    go_wp2
    go_ret
    obtain rfl : k = l.length := by omega
    exact ⟨⟨_, rfl, .inr ⟨hz0, HZ.out.1, by omega, HZ.out.2⟩⟩, HB.out⟩
set_option maxHeartbeats 4000000 in
theorem sz_vecs (x : Value) (l : List (List Int)) (left : Int) (w : World) (h0 : 0 ≤ left) (h1 : left ≤ 1048576) (h : IsD w x (vecsD l)) :
  Calls Tryz.prog 82 #[x, .int .i64 left] w fun e w' => (∃ r, e = .returned (.int .i64 r) ∧ SzR (vecsD l).wt left r) ∧ Below w.heap.size w w' := by
 obtain ⟨a, cap, rfl, hn1, hn, h⟩ := IsD.parts (c := 1) (n := l.length) h
 have hn2 : l.length ≤ 9223372036854775807 := by unfold maxLen at hn; omega
 clear hn1 hn
 by_cases hp : left - (l.length : Int) < 0
 ·go_enter Tryz.func82, Tryz.ntmps82
  go_wp2
  go_ret
  exact ⟨⟨_, rfl, .inl rfl⟩, Below.refl _ _⟩
 ·have HLF : Hid (0 ≤ left - (l.length : Int)) := (by omega : 0 ≤ left - (l.length : Int))
  go_enter Tryz.func82, Tryz.ntmps82
  go_wp2
  go_loopw [5, 1] (fun i z wr => ∃ k : Nat, k ≤ l.length ∧ i = .int .i64 k ∧ Below w.heap.size w wr ∧ ∃ lf : Int, z = .int .i64 lf ∧ 0 ≤ lf ∧ lf + (l.length : Int) + (sumL (fun i => (intsD (vAt l i)).wt) k : Int) = left) (fun i _ _ => l.length - (intOf i).toNat)
  case atStart => exact ⟨0, Nat.zero_le _, rfl, Below.refl _ _, left - (l.length : Int), rfl, HLF.out, by simp [sumL]⟩
  case round =>
   obtain ⟨k, hk, rfl, hB, lf2, rfl, hz0, hz1⟩ := hrel
   have HZ := hidWDat hz1
   have HB := hidWDat hB
   have hz2 : lf2 ≤ 1048576 := by omega
   clear hz1
   by_cases hlt : k < l.length
   ·obtain ⟨b, off, rfl, hb, hc⟩ := h.resolve_left (by omega)
    obtain ⟨u, hu, hd⟩ := hc k (by omega)
    have f0 := (hB.cell (p := ⟨b, off + k, none⟩) hb).trans hu
    have HD := hidWDat (hd.under hB)
    clear h hc hB hd hu
    go_wp2_with fail
    clear f0
    refine (sz_ints _ (vAt l k) _ _ hz0 hz2 HD.out).mono ?_
    rintro e w2 ⟨⟨r, rfl, hr⟩, hb2⟩
    have HB2 := hidWDat (HB.out.trans (hb2.mono HB.out.size))
    clear hb2
    rcases hr with rfl | ⟨r0, hr⟩
    ·go_wp2
     go_ret
     exact ⟨⟨_, rfl, .inl rfl⟩, HB2.out⟩
    ·have HR := hidWDat hr
     have r2 : ¬ (r < 0) := by omega
     clear hr
     go_wp2
     go_roundw
     case rel => exact ⟨k + 1, by omega, by go_num, HB2.out, r, rfl, r0, by have := HR.out; have := HZ.out; simp only [sumL]; omega⟩
     case measure => simp [intOf]; omega
   ·clear h hB
    go_wp2
    go_ret
    obtain rfl : k = l.length := by omega
    exact ⟨⟨_, rfl, .inr ⟨hz0, by rw [vecs_wt]; have := HZ.out; omega⟩⟩, HB.out⟩
set_option maxRecDepth 100000 in
set_option maxHeartbeats 4000000 in
theorem szWorld_any (x : Value) (v : Wd) (w : World) (h : IsW w x v) :
  Calls Tryz.prog 25 #[x, .int .i64 1048576] w fun e w' => (∃ r, e = .returned (.int .i64 r) ∧ (r = -1 ∨ (0 ≤ r ∧ SmallWd v))) ∧ Below w.heap.size w w' := by
 obtain ⟨vi, vh, vs, uk, uc, rfl, hm, hk, hc⟩ := h
 have HM := hidWDat hm
 have HK : Hid (IsKs w uk v.k) := hk
 have HC := hidWDat hc
 clear hm hk hc
 obtain ⟨W0, hW0⟩ : ∃ W0, w.alloc (.cells #[.int .i64 v.m.n, .int .i64 v.m.s, vi, vh, vs, .int .i64 v.m.z, uk, uc] 55) = W0 := ⟨_, rfl⟩
 have HB0 : Hid (Below w.heap.size w W0) := by rw [← hW0]; exact (Below.refl _ w).alloc (Nat.le_refl _) _
 have HP0 : Hid (Bk W0 w.heap.size 55 #[.int .i64 v.m.n, .int .i64 v.m.s, vi, vh, vs, .int .i64 v.m.z, uk, uc]) := by rw [← hW0]; exact Bk.new w _ _
 have HW := hidWDat hW0
 clear hW0
 go_enter Tryz.func25, Tryz.ntmps25
 have p0 := HP0.out.cell (i := 0) rfl
 have p1 := HP0.out.cell (i := 1) rfl
 have p2 := HP0.out.cell (i := 2) rfl
 have p3 := HP0.out.cell (i := 3) rfl
 have p4 := HP0.out.cell (i := 4) rfl
 have p5 := HP0.out.cell (i := 5) rfl
 go_wp2_with fail
 rw [HW.out]
 clear HW p0 p1 p2 p3 p4 p5
 refine (szModel_gen _ v.m _ _ (by omega) (by omega) (HM.out.below HB0.out)).mono ?_
 rintro e w1 ⟨⟨r1, rfl, hr⟩, hb⟩
 have HB1 := hidWDat (HB0.out.trans (hb.mono HB0.out.size))
 have HP1 := hidWDat (HP0.out.below hb)
 clear hb
 rcases hr with rfl | ⟨r10, r11, hsm⟩
 ·go_wp2
  go_ret
  exact ⟨⟨_, rfl, .inl rfl⟩, HB1.out⟩
 have HSM : Hid (SmallM v.m) := hsm
 have r12 : ¬ (r1 < 0) := by omega
 clear hsm
 have p6 := HP1.out.cell (i := 6) rfl
 go_wp2_with fail
 clear p6
 refine (sz_kernels _ v.k _ _ r10 r11 (HK.out.under HB1.out)).mono ?_
 rintro e w2 ⟨⟨r2, rfl, hr⟩, hb⟩
 have HB2 := hidWDat (HB1.out.trans (hb.mono HB1.out.size))
 have HP2 := hidWDat (HP1.out.below hb)
 clear hb
 rcases hr with rfl | ⟨r20, r21, hsk⟩
 ·go_wp2
  go_ret
  exact ⟨⟨_, rfl, .inl rfl⟩, HB2.out⟩
 have HSK : Hid (SmallKs v.k) := hsk
 have r22 : ¬ (r2 < 0) := by omega
 have r23 : r2 ≤ 1048576 := by omega
 clear hsk
 have p7 := HP2.out.cell (i := 7) rfl
 go_wp2_with fail
 clear p7
 refine (sz_vecs _ v.c _ _ r20 r23 (HC.out.under HB2.out)).mono ?_
 rintro e w3 ⟨⟨r3, rfl, hr⟩, hb⟩
 have HB3 := hidWDat (HB2.out.trans (hb.mono HB2.out.size))
 clear hb
 rcases hr with rfl | ⟨r30, hr⟩
 ·go_wp2
  go_ret
  exact ⟨⟨_, rfl, .inl rfl⟩, HB3.out⟩
 have HE := hidWDat hr
 have r32 : ¬ (r3 < 0) := by omega
 clear hr
 go_wp2
 go_ret
 exact ⟨⟨_, rfl, .inr ⟨r30, HSM.out, HSK.out, by have := HE.out; omega⟩⟩, HB3.out⟩
end Go.Proofs.YtnlhcdchmgfipaaGreat

