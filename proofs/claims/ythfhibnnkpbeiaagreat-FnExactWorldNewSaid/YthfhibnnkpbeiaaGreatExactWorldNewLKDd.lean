/- heldKernelS: rows of kernels. -/
import Derived.Test.YthfhibnnkpbeiaaGreatExactWorldNewG28
import Derived.Test.YthfhibnnkpbeiaaGreatExactWorldNewG29
namespace Go.Proofs.YthfhibnnkpbeiaaGreat
open Go.RowKit
theorem hidKDd {p : Prop} (h : p) : Hid p := h
set_option maxRecDepth 100000 in
set_option maxHeartbeats 8000000 in
theorem held_kernels {F : Nat → Prop} {x : Value} {l : List Kn} {w : World} (z : Int) (hn : (knsD l).wt ≤ 1048577) (hz0 : 0 ≤ z) (hz1 : z + ((knsD l).cnt : Int) ≤ 1073741824) (h : OwnD w F x ((knsD l).mark z)) :
  Calls Tryz.prog 60 #[x, .int .i64 z] w fun e w' => e = .returned (.int .i64 (z + ((knsD l).cnt : Int))) ∧ Below w.heap.size w w' := by
 obtain ⟨a, cap, rfl, h2, ha⟩ := OwnD.mslice (c := 14) (n := l.length) h
 have HR0 := hidKDd h
 have HS := hidKDd hn
 have HZ := hidKDd hz1
 have hl2 : l.length ≤ 1048577 := by rw [knsD_wt] at hn; omega
 clear h hn hz1 h2
 go_enter Tryz.func60, Tryz.ntmps60
 go_wp2
 go_loopw [5, 1] (fun i y wr => ∃ k : Nat, k ≤ l.length ∧ i = .int .i64 k ∧ y = .int .i64 (z + (sumC (knsD_f l) (k * 14) : Int)) ∧ Below w.heap.size w wr) (fun i _ _ => l.length - (intOf i).toNat)
 case atStart => exact ⟨0, Nat.zero_le _, rfl, by simp [sumC, sumL], Below.refl _ _⟩
 case round =>
  obtain ⟨k, hk, rfl, rfl, hB⟩ := hrel
  have HB := hidKDd hB
  clear hB
  by_cases hlt : k < l.length
  ·obtain ⟨g, rfl⟩ := ha.resolve_left (by omega)
   have HR := hidKDd (HR0.out.under HB.out)
   have hwt : (knAt l k).wd ≤ 1048577 := Nat.le_trans (Kn.wd_le hlt) HS.out
   unfold Kn.wd at hwt
   simp only [ems_wt, evs_wt, ints_wt] at hwt
   have E0 := hidKDd (knsD_at l k (r := 0) (by omega))
   have E1 := hidKDd (knsD_at l k (r := 1) (by omega))
   have E2 := hidKDd (knsD_at l k (r := 2) (by omega))
   have E3 := hidKDd (knsD_at l k (r := 3) (by omega))
   have E4 := hidKDd (knsD_at l k (r := 4) (by omega))
   have E5 := hidKDd (knsD_at l k (r := 5) (by omega))
   have E6 := hidKDd (knsD_at l k (r := 6) (by omega))
   have E7 := hidKDd (knsD_at l k (r := 7) (by omega))
   have E8 := hidKDd (knsD_at l k (r := 8) (by omega))
   have E9 := hidKDd (knsD_at l k (r := 9) (by omega))
   have E10 := hidKDd (knsD_at l k (r := 10) (by omega))
   have E11 := hidKDd (knsD_at l k (r := 11) (by omega))
   have E12 := hidKDd (knsD_at l k (r := 12) (by omega))
   have E13 := hidKDd (knsD_at l k (r := 13) (by omega))
   have C0 : Hid (sumC (knsD_f l) (k * 14) ≤ (knsD l).cnt) := sumC_le (by omega)
   have S1 : Hid (sumC (knsD_f l) (k * 14 + 1) = sumC (knsD_f l) (k * 14) + (Dat.val (.int .i64 (knAt l k).m.n)).cnt) := by
    have e := sumC_succ (knsD_f l) (k * 14 + 0)
    rw [E0.out] at e
    exact e
   have C1 : Hid (sumC (knsD_f l) (k * 14 + 1) ≤ (knsD l).cnt) := sumC_le (by omega)
   have S2 : Hid (sumC (knsD_f l) (k * 14 + 2) = sumC (knsD_f l) (k * 14 + 1) + (Dat.val (.int .i64 (knAt l k).m.s)).cnt) := by
    have e := sumC_succ (knsD_f l) (k * 14 + 1)
    rw [E1.out] at e
    exact e
   have C2 : Hid (sumC (knsD_f l) (k * 14 + 2) ≤ (knsD l).cnt) := sumC_le (by omega)
   have S3 : Hid (sumC (knsD_f l) (k * 14 + 3) = sumC (knsD_f l) (k * 14 + 2) + (intsD (knAt l k).m.i).cnt) := by
    have e := sumC_succ (knsD_f l) (k * 14 + 2)
    rw [E2.out] at e
    exact e
   have C3 : Hid (sumC (knsD_f l) (k * 14 + 3) ≤ (knsD l).cnt) := sumC_le (by omega)
   have S4 : Hid (sumC (knsD_f l) (k * 14 + 4) = sumC (knsD_f l) (k * 14 + 3) + (hsD (knAt l k).m.h).cnt) := by
    have e := sumC_succ (knsD_f l) (k * 14 + 3)
    rw [E3.out] at e
    exact e
   have C4 : Hid (sumC (knsD_f l) (k * 14 + 4) ≤ (knsD l).cnt) := sumC_le (by omega)
   have S5 : Hid (sumC (knsD_f l) (k * 14 + 5) = sumC (knsD_f l) (k * 14 + 4) + (evsD (knAt l k).m.e).cnt) := by
    have e := sumC_succ (knsD_f l) (k * 14 + 4)
    rw [E4.out] at e
    exact e
   have C5 : Hid (sumC (knsD_f l) (k * 14 + 5) ≤ (knsD l).cnt) := sumC_le (by omega)
   have S6 : Hid (sumC (knsD_f l) (k * 14 + 6) = sumC (knsD_f l) (k * 14 + 5) + (Dat.val (.int .i64 (knAt l k).m.z)).cnt) := by
    have e := sumC_succ (knsD_f l) (k * 14 + 5)
    rw [E5.out] at e
    exact e
   have C6 : Hid (sumC (knsD_f l) (k * 14 + 6) ≤ (knsD l).cnt) := sumC_le (by omega)
   have S7 : Hid (sumC (knsD_f l) (k * 14 + 7) = sumC (knsD_f l) (k * 14 + 6) + (intsD (knAt l k).d).cnt) := by
    have e := sumC_succ (knsD_f l) (k * 14 + 6)
    rw [E6.out] at e
    exact e
   have C7 : Hid (sumC (knsD_f l) (k * 14 + 7) ≤ (knsD l).cnt) := sumC_le (by omega)
   have S8 : Hid (sumC (knsD_f l) (k * 14 + 8) = sumC (knsD_f l) (k * 14 + 7) + (partsD (knAt l k).p).cnt) := by
    have e := sumC_succ (knsD_f l) (k * 14 + 7)
    rw [E7.out] at e
    exact e
   have C8 : Hid (sumC (knsD_f l) (k * 14 + 8) ≤ (knsD l).cnt) := sumC_le (by omega)
   have S9 : Hid (sumC (knsD_f l) (k * 14 + 9) = sumC (knsD_f l) (k * 14 + 8) + (mailsD (knAt l k).b).cnt) := by
    have e := sumC_succ (knsD_f l) (k * 14 + 8)
    rw [E8.out] at e
    exact e
   have C9 : Hid (sumC (knsD_f l) (k * 14 + 9) ≤ (knsD l).cnt) := sumC_le (by omega)
   have S10 : Hid (sumC (knsD_f l) (k * 14 + 10) = sumC (knsD_f l) (k * 14 + 9) + (Dat.val (.int .i64 (knAt l k).t)).cnt) := by
    have e := sumC_succ (knsD_f l) (k * 14 + 9)
    rw [E9.out] at e
    exact e
   have C10 : Hid (sumC (knsD_f l) (k * 14 + 10) ≤ (knsD l).cnt) := sumC_le (by omega)
   have S11 : Hid (sumC (knsD_f l) (k * 14 + 11) = sumC (knsD_f l) (k * 14 + 10) + (Dat.val (.int .i64 (knAt l k).q)).cnt) := by
    have e := sumC_succ (knsD_f l) (k * 14 + 10)
    rw [E10.out] at e
    exact e
   have C11 : Hid (sumC (knsD_f l) (k * 14 + 11) ≤ (knsD l).cnt) := sumC_le (by omega)
   have S12 : Hid (sumC (knsD_f l) (k * 14 + 12) = sumC (knsD_f l) (k * 14 + 11) + (Dat.val (.bool (knAt l k).f)).cnt) := by
    have e := sumC_succ (knsD_f l) (k * 14 + 11)
    rw [E11.out] at e
    exact e
   have C12 : Hid (sumC (knsD_f l) (k * 14 + 12) ≤ (knsD l).cnt) := sumC_le (by omega)
   have S13 : Hid (sumC (knsD_f l) (k * 14 + 13) = sumC (knsD_f l) (k * 14 + 12) + (evsD (knAt l k).s).cnt) := by
    have e := sumC_succ (knsD_f l) (k * 14 + 12)
    rw [E12.out] at e
    exact e
   have C13 : Hid (sumC (knsD_f l) (k * 14 + 13) ≤ (knsD l).cnt) := sumC_le (by omega)
   have S14 : Hid (sumC (knsD_f l) (k * 14 + 14) = sumC (knsD_f l) (k * 14 + 13) + (emsD (knAt l k).x).cnt) := by
    have e := sumC_succ (knsD_f l) (k * 14 + 13)
    rw [E13.out] at e
    exact e
   have C14 : Hid (sumC (knsD_f l) (k * 14 + 14) ≤ (knsD l).cnt) := sumC_le (by omega)
   obtain ⟨y, hy⟩ : ∃ y : Int, y = z + (sumC (knsD_f l) (k * 14) : Int) := ⟨_, rfl⟩
   have HY0 := hidKDd hy
   have y0 : 0 ≤ y := by omega
   rw [← hy]
   clear hy
   have g0 : wr.cell? ⟨g, k * 14, none⟩ = some (.int .i64 y) := OwnD.marked_val (c := 14) (n := l.length) (f := (knsD_f l)) HR.out (j := k * 14) (by omega) E0.out (by
    show _ = Value.int .i64 (z + (sumC (knsD_f l) (k * 14) : Int))
    rw [show y = z + (sumC (knsD_f l) (k * 14) : Int) from by (have e := HY0.out; simp only [Dat.cnt] at *; omega)])
   have g1 : wr.cell? ⟨g, k * 14 + 1, none⟩ = some (.int .i64 (y + 1)) := OwnD.marked_val (c := 14) (n := l.length) (f := (knsD_f l)) HR.out (j := k * 14 + 1) (by omega) E1.out (by
    show _ = Value.int .i64 (z + (sumC (knsD_f l) (k * 14 + 1) : Int))
    rw [show y + 1 = z + (sumC (knsD_f l) (k * 14 + 1) : Int) from by (have e := HY0.out; have e1 := S1.out; simp only [Dat.cnt] at *; omega)])
   obtain ⟨u2, K2, g2, o2⟩ := OwnD.marked (c := 14) (n := l.length) (f := (knsD_f l)) HR.out (j := k * 14 + 2) (by omega)
   rw [E2.out] at o2
   have hq2 : y + 1 + 1 = z + (sumC (knsD_f l) (k * 14 + 2) : Int) := by (have e := HY0.out; have e1 := S1.out; have e2 := S2.out; simp only [Dat.cnt] at *; omega)
   have hb2 : y + 1 + 1 ≤ 1073741824 := by have := HZ.out; have := C2.out; omega
   rw [← hq2] at o2
   have O2 := hidKDd o2
   have Q2 := hidKDd hq2
   clear hq2 o2
   go_wp2_with fail
   clear g2 g1 g0
   refine (held_ints (F := K2) (l := (knAt l k).m.i) (y + 1 + 1) (by omega) (by omega) (by omega) O2.out).mono ?_
   rintro e w3 ⟨rfl, hb⟩
   have HR3 := hidKDd (HR.out.under hb)
   have HB3 := hidKDd (HB.out.trans (hb.mono HB.out.size))
   clear hb
   obtain ⟨y2, hy⟩ : ∃ y2 : Int, y2 = y + 1 + 1 + ((intsD (knAt l k).m.i).cnt : Int) := ⟨_, rfl⟩
   have HY3 : Hid (y2 = z + (sumC (knsD_f l) (k * 14 + 3) : Int)) := by
    have h8 := S3.out
    have h9 := Q2.out
    show y2 = _
    omega
   have y20 : 0 ≤ y2 := by omega
   have y21 : y2 ≤ 1073741824 := by have h7 := HZ.out; have h8 := C3.out; have h9 := HY3.out; omega
   have y22 : ¬ (y2 < 0) := by omega
   rw [← hy]
   clear hy
   obtain ⟨u3, K3, g3, o3⟩ := OwnD.marked (c := 14) (n := l.length) (f := (knsD_f l)) HR3.out (j := k * 14 + 3) (by omega)
   rw [E3.out] at o3
   have hq3 : y2 = z + (sumC (knsD_f l) (k * 14 + 3) : Int) := by (have e := HY3.out; simp only [Dat.cnt] at *; omega)
   have hb3 : y2 ≤ 1073741824 := by have := HZ.out; have := C3.out; omega
   rw [← hq3] at o3
   have O3 := hidKDd o3
   have Q3 := hidKDd hq3
   clear hq3 o3
   go_wp2_with fail
   clear g3
   refine (held_hs (F := K3) (l := (knAt l k).m.h) (y2) (by omega) (by omega) (by have h6 := S4.out; have h7 := HZ.out; have h8 := C4.out; have h9 := Q3.out; omega) O3.out).mono ?_
   rintro e w4 ⟨rfl, hb⟩
   have HR4 := hidKDd (HR3.out.under hb)
   have HB4 := hidKDd (HB3.out.trans (hb.mono HB3.out.size))
   clear hb
   obtain ⟨y3, hy⟩ : ∃ y3 : Int, y3 = y2 + ((hsD (knAt l k).m.h).cnt : Int) := ⟨_, rfl⟩
   have HY4 : Hid (y3 = z + (sumC (knsD_f l) (k * 14 + 4) : Int)) := by
    have h8 := S4.out
    have h9 := Q3.out
    show y3 = _
    omega
   have y30 : 0 ≤ y3 := by omega
   have y31 : y3 ≤ 1073741824 := by have h7 := HZ.out; have h8 := C4.out; have h9 := HY4.out; omega
   have y32 : ¬ (y3 < 0) := by omega
   rw [← hy]
   clear hy
   obtain ⟨u4, K4, g4, o4⟩ := OwnD.marked (c := 14) (n := l.length) (f := (knsD_f l)) HR4.out (j := k * 14 + 4) (by omega)
   rw [E4.out] at o4
   have hq4 : y3 = z + (sumC (knsD_f l) (k * 14 + 4) : Int) := by (have e := HY4.out; simp only [Dat.cnt] at *; omega)
   have hb4 : y3 ≤ 1073741824 := by have := HZ.out; have := C4.out; omega
   rw [← hq4] at o4
   have O4 := hidKDd o4
   have Q4 := hidKDd hq4
   clear hq4 o4
   go_wp2_with fail
   clear g4
   refine (held_evs (F := K4) (l := (knAt l k).m.e) (y3) (by omega) (by omega) (by omega) O4.out).mono ?_
   rintro e w5 ⟨rfl, hb⟩
   have HR5 := hidKDd (HR4.out.under hb)
   have HB5 := hidKDd (HB4.out.trans (hb.mono HB4.out.size))
   clear hb
   obtain ⟨y4, hy⟩ : ∃ y4 : Int, y4 = y3 + ((evsD (knAt l k).m.e).cnt : Int) := ⟨_, rfl⟩
   have HY5 : Hid (y4 = z + (sumC (knsD_f l) (k * 14 + 5) : Int)) := by
    have h8 := S5.out
    have h9 := Q4.out
    show y4 = _
    omega
   have y40 : 0 ≤ y4 := by omega
   have y41 : y4 ≤ 1073741824 := by have h7 := HZ.out; have h8 := C5.out; have h9 := HY5.out; omega
   have y42 : ¬ (y4 < 0) := by omega
   rw [← hy]
   clear hy
   have g5 : w5.cell? ⟨g, k * 14 + 5, none⟩ = some (.int .i64 y4) := OwnD.marked_val (c := 14) (n := l.length) (f := (knsD_f l)) HR5.out (j := k * 14 + 5) (by omega) E5.out (by
    show _ = Value.int .i64 (z + (sumC (knsD_f l) (k * 14 + 5) : Int))
    rw [show y4 = z + (sumC (knsD_f l) (k * 14 + 5) : Int) from by (have e := HY5.out; simp only [Dat.cnt] at *; omega)])
   obtain ⟨u6, K6, g6, o6⟩ := OwnD.marked (c := 14) (n := l.length) (f := (knsD_f l)) HR5.out (j := k * 14 + 6) (by omega)
   rw [E6.out] at o6
   have hq6 : y4 + 1 = z + (sumC (knsD_f l) (k * 14 + 6) : Int) := by (have e := HY5.out; have e6 := S6.out; simp only [Dat.cnt] at *; omega)
   have hb6 : y4 + 1 ≤ 1073741824 := by have := HZ.out; have := C6.out; omega
   rw [← hq6] at o6
   have O6 := hidKDd o6
   have Q6 := hidKDd hq6
   clear hq6 o6
   go_wp2_with fail
   clear g6 g5
   refine (held_ints (F := K6) (l := (knAt l k).d) (y4 + 1) (by omega) (by omega) (by omega) O6.out).mono ?_
   rintro e w7 ⟨rfl, hb⟩
   have HR7 := hidKDd (HR5.out.under hb)
   have HB7 := hidKDd (HB5.out.trans (hb.mono HB5.out.size))
   clear hb
   obtain ⟨y6, hy⟩ : ∃ y6 : Int, y6 = y4 + 1 + ((intsD (knAt l k).d).cnt : Int) := ⟨_, rfl⟩
   have HY7 : Hid (y6 = z + (sumC (knsD_f l) (k * 14 + 7) : Int)) := by
    have h8 := S7.out
    have h9 := Q6.out
    show y6 = _
    omega
   have y60 : 0 ≤ y6 := by omega
   have y61 : y6 ≤ 1073741824 := by have h7 := HZ.out; have h8 := C7.out; have h9 := HY7.out; omega
   have y62 : ¬ (y6 < 0) := by omega
   rw [← hy]
   clear hy
   obtain ⟨u7, K7, g7, o7⟩ := OwnD.marked (c := 14) (n := l.length) (f := (knsD_f l)) HR7.out (j := k * 14 + 7) (by omega)
   rw [E7.out] at o7
   have hq7 : y6 = z + (sumC (knsD_f l) (k * 14 + 7) : Int) := by (have e := HY7.out; simp only [Dat.cnt] at *; omega)
   have hb7 : y6 ≤ 1073741824 := by have := HZ.out; have := C7.out; omega
   rw [← hq7] at o7
   have O7 := hidKDd o7
   have Q7 := hidKDd hq7
   clear hq7 o7
   go_wp2_with fail
   clear g7
   refine (held_parts (F := K7) (l := (knAt l k).p) (y6) (by omega) (by omega) (by have h6 := S8.out; have h7 := HZ.out; have h8 := C8.out; have h9 := Q7.out; omega) O7.out).mono ?_
   rintro e w8 ⟨rfl, hb⟩
   have HR8 := hidKDd (HR7.out.under hb)
   have HB8 := hidKDd (HB7.out.trans (hb.mono HB7.out.size))
   clear hb
   obtain ⟨y7, hy⟩ : ∃ y7 : Int, y7 = y6 + ((partsD (knAt l k).p).cnt : Int) := ⟨_, rfl⟩
   have HY8 : Hid (y7 = z + (sumC (knsD_f l) (k * 14 + 8) : Int)) := by
    have h8 := S8.out
    have h9 := Q7.out
    show y7 = _
    omega
   have y70 : 0 ≤ y7 := by omega
   have y71 : y7 ≤ 1073741824 := by have h7 := HZ.out; have h8 := C8.out; have h9 := HY8.out; omega
   have y72 : ¬ (y7 < 0) := by omega
   rw [← hy]
   clear hy
   obtain ⟨u8, K8, g8, o8⟩ := OwnD.marked (c := 14) (n := l.length) (f := (knsD_f l)) HR8.out (j := k * 14 + 8) (by omega)
   rw [E8.out] at o8
   have hq8 : y7 = z + (sumC (knsD_f l) (k * 14 + 8) : Int) := by (have e := HY8.out; simp only [Dat.cnt] at *; omega)
   have hb8 : y7 ≤ 1073741824 := by have := HZ.out; have := C8.out; omega
   rw [← hq8] at o8
   have O8 := hidKDd o8
   have Q8 := hidKDd hq8
   clear hq8 o8
   go_wp2_with fail
   clear g8
   refine (held_mails (F := K8) (l := (knAt l k).b) (y7) (by omega) (by omega) (by have h6 := S9.out; have h7 := HZ.out; have h8 := C9.out; have h9 := Q8.out; omega) O8.out).mono ?_
   rintro e w9 ⟨rfl, hb⟩
   have HR9 := hidKDd (HR8.out.under hb)
   have HB9 := hidKDd (HB8.out.trans (hb.mono HB8.out.size))
   clear hb
   obtain ⟨y8, hy⟩ : ∃ y8 : Int, y8 = y7 + ((mailsD (knAt l k).b).cnt : Int) := ⟨_, rfl⟩
   have HY9 : Hid (y8 = z + (sumC (knsD_f l) (k * 14 + 9) : Int)) := by
    have h8 := S9.out
    have h9 := Q8.out
    show y8 = _
    omega
   have y80 : 0 ≤ y8 := by omega
   have y81 : y8 ≤ 1073741824 := by have h7 := HZ.out; have h8 := C9.out; have h9 := HY9.out; omega
   have y82 : ¬ (y8 < 0) := by omega
   rw [← hy]
   clear hy
   have g9 : w9.cell? ⟨g, k * 14 + 9, none⟩ = some (.int .i64 y8) := OwnD.marked_val (c := 14) (n := l.length) (f := (knsD_f l)) HR9.out (j := k * 14 + 9) (by omega) E9.out (by
    show _ = Value.int .i64 (z + (sumC (knsD_f l) (k * 14 + 9) : Int))
    rw [show y8 = z + (sumC (knsD_f l) (k * 14 + 9) : Int) from by (have e := HY9.out; simp only [Dat.cnt] at *; omega)])
   have g10 : w9.cell? ⟨g, k * 14 + 10, none⟩ = some (.int .i64 (y8 + 1)) := OwnD.marked_val (c := 14) (n := l.length) (f := (knsD_f l)) HR9.out (j := k * 14 + 10) (by omega) E10.out (by
    show _ = Value.int .i64 (z + (sumC (knsD_f l) (k * 14 + 10) : Int))
    rw [show y8 + 1 = z + (sumC (knsD_f l) (k * 14 + 10) : Int) from by (have e := HY9.out; have e10 := S10.out; simp only [Dat.cnt] at *; omega)])
   have g11 : w9.cell? ⟨g, k * 14 + 11, none⟩ = some (.bool ((y8 + 1 + 1) % 3 == 0)) := OwnD.marked_val (c := 14) (n := l.length) (f := (knsD_f l)) HR9.out (j := k * 14 + 11) (by omega) E11.out (by
    show _ = Value.bool ((z + (sumC (knsD_f l) (k * 14 + 11) : Int)) % 3 == 0)
    rw [show y8 + 1 + 1 = z + (sumC (knsD_f l) (k * 14 + 11) : Int) from by (have e := HY9.out; have e10 := S10.out; have e11 := S11.out; simp only [Dat.cnt] at *; omega)])
   obtain ⟨u12, K12, g12, o12⟩ := OwnD.marked (c := 14) (n := l.length) (f := (knsD_f l)) HR9.out (j := k * 14 + 12) (by omega)
   rw [E12.out] at o12
   have hq12 : y8 + 1 + 1 + 1 = z + (sumC (knsD_f l) (k * 14 + 12) : Int) := by (have e := HY9.out; have e10 := S10.out; have e11 := S11.out; have e12 := S12.out; simp only [Dat.cnt] at *; omega)
   have hb12 : y8 + 1 + 1 + 1 ≤ 1073741824 := by have := HZ.out; have := C12.out; omega
   rw [← hq12] at o12
   have O12 := hidKDd o12
   have Q12 := hidKDd hq12
   clear hq12 o12
   go_wp2_with fail
   clear g12 g11 g10 g9
   refine (held_evs (F := K12) (l := (knAt l k).s) (y8 + 1 + 1 + 1) (by omega) (by omega) (by omega) O12.out).mono ?_
   rintro e w13 ⟨rfl, hb⟩
   have HR13 := hidKDd (HR9.out.under hb)
   have HB13 := hidKDd (HB9.out.trans (hb.mono HB9.out.size))
   clear hb
   obtain ⟨y12, hy⟩ : ∃ y12 : Int, y12 = y8 + 1 + 1 + 1 + ((evsD (knAt l k).s).cnt : Int) := ⟨_, rfl⟩
   have HY13 : Hid (y12 = z + (sumC (knsD_f l) (k * 14 + 13) : Int)) := by
    have h8 := S13.out
    have h9 := Q12.out
    show y12 = _
    omega
   have y120 : 0 ≤ y12 := by omega
   have y121 : y12 ≤ 1073741824 := by have h7 := HZ.out; have h8 := C13.out; have h9 := HY13.out; omega
   have y122 : ¬ (y12 < 0) := by omega
   rw [← hy]
   clear hy
   obtain ⟨u13, K13, g13, o13⟩ := OwnD.marked (c := 14) (n := l.length) (f := (knsD_f l)) HR13.out (j := k * 14 + 13) (by omega)
   rw [E13.out] at o13
   have hq13 : y12 = z + (sumC (knsD_f l) (k * 14 + 13) : Int) := by (have e := HY13.out; simp only [Dat.cnt] at *; omega)
   have hb13 : y12 ≤ 1073741824 := by have := HZ.out; have := C13.out; omega
   rw [← hq13] at o13
   have O13 := hidKDd o13
   have Q13 := hidKDd hq13
   clear hq13 o13
   go_wp2_with fail
   clear g13
   refine (held_ems (F := K13) (l := (knAt l k).x) (y12) (by omega) (by omega) (by omega) O13.out).mono ?_
   rintro e w14 ⟨rfl, hb⟩
   have HR14 := hidKDd (HR13.out.under hb)
   have HB14 := hidKDd (HB13.out.trans (hb.mono HB13.out.size))
   clear hb
   obtain ⟨y13, hy⟩ : ∃ y13 : Int, y13 = y12 + ((emsD (knAt l k).x).cnt : Int) := ⟨_, rfl⟩
   have HY14 : Hid (y13 = z + (sumC (knsD_f l) (k * 14 + 14) : Int)) := by
    have h8 := S14.out
    have h9 := Q13.out
    show y13 = _
    omega
   have y130 : 0 ≤ y13 := by omega
   have y131 : y13 ≤ 1073741824 := by have h7 := HZ.out; have h8 := C14.out; have h9 := HY14.out; omega
   have y132 : ¬ (y13 < 0) := by omega
   rw [← hy]
   clear hy
   go_wp2
   go_roundw
   case rel =>
    refine ⟨k + 1, by omega, by go_num, ?_, HB14.out⟩
    rw [show y13 = z + (sumC (knsD_f l) ((k + 1) * 14) : Int) from by rw [show (k + 1) * 14 = k * 14 + 14 from by omega]; (have e := HY14.out; simp only [Dat.cnt] at *; omega)]
   case measure => simp [intOf]; omega
  ·go_wp2
   go_ret
   obtain rfl : k = l.length := by omega
   exact ⟨rfl, HB.out⟩
end Go.Proofs.YthfhibnnkpbeiaaGreat
