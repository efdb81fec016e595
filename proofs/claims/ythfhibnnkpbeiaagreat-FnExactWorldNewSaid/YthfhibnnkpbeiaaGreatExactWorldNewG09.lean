/- TPsF, PLib, PApp -/
import Derived.Test.YthfhibnnkpbeiaaGreatExactWorldNewG06
import Derived.Test.YthfhibnnkpbeiaaGreatExactWorldNewG07
import Derived.Test.YthfhibnnkpbeiaaGreatExactWorldNewG05
import Derived.Test.YthfhibnnkpbeiaaGreatExactWorldNewG01
import Derived.Test.YthfhibnnkpbeiaaGreatExactWorldNewG02
import Derived.Laws.OwnMore
import Derived.WalkSmall
import Derived.Test.YthfhibnnkpbeiaaGreatExactWorldNewLTPsE
import Derived.Deep.Cut
import Derived.Deep.CutBlock
import Derived.Deep.RegionHeld3
import Derived.ArgAppend
/- heldPastS: the marks are found again. -/
namespace Go.Proofs.YthfhibnnkpbeiaaGreat
open Go.RowKit
theorem hidTPsF {p : Prop} (h : p) : Hid p := h
set_option maxRecDepth 100000 in
set_option maxHeartbeats 8000000 in
theorem held_pasts {F : Nat → Prop} {x : Value} {l : List Ps} {w : World} (z : Int) (hn : (pastsD l).wt ≤ 1048577) (hz0 : 0 ≤ z) (hz1 : z + ((pastsD l).cnt : Int) ≤ 1073741824) (h : OwnD w F x ((pastsD l).mark z)) :
  Calls Tryz.prog 91 #[x, .int .i64 z] w fun e w' => e = .returned (.int .i64 (z + ((pastsD l).cnt : Int))) ∧ Below w.heap.size w w' := by
 obtain ⟨a, cap, rfl, h2, ha⟩ := OwnD.mslice (c := 12) (n := l.length) h
 have HR0 := hidTPsF h
 have HS := hidTPsF hn
 have HZ := hidTPsF hz1
 have hl2 : l.length ≤ 1048577 := by rw [pastsD_wt] at hn; omega
 clear h hn hz1 h2
 go_enter Tryz.func91, Tryz.ntmps91
 go_wp2
 go_loopw [5, 1] (fun i y wr => ∃ k : Nat, k ≤ l.length ∧ i = .int .i64 k ∧ y = .int .i64 (z + (sumC (pastsD_f l) (k * 12) : Int)) ∧ Below w.heap.size w wr) (fun i _ _ => l.length - (intOf i).toNat)
 case atStart => exact ⟨0, Nat.zero_le _, rfl, by simp [sumC, sumL], Below.refl _ _⟩
 case round =>
  obtain ⟨k, hk, rfl, rfl, hB⟩ := hrel
  have HB := hidTPsF hB
  clear hB
  by_cases hlt : k < l.length
  ·obtain ⟨g, rfl⟩ := ha.resolve_left (by omega)
   have HR := hidTPsF (HR0.out.under HB.out)
   have hwt : (psAt l k).wt ≤ 1048577 := Nat.le_trans (Ps.wt_le hlt) HS.out
   unfold Ps.wt at hwt
   simp only [ems_wt, evs_wt, ints_wt] at hwt
   have E0 := hidTPsF (pastsD_at l k (r := 0) (by omega))
   have E1 := hidTPsF (pastsD_at l k (r := 1) (by omega))
   have E2 := hidTPsF (pastsD_at l k (r := 2) (by omega))
   have E3 := hidTPsF (pastsD_at l k (r := 3) (by omega))
   have E4 := hidTPsF (pastsD_at l k (r := 4) (by omega))
   have E5 := hidTPsF (pastsD_at l k (r := 5) (by omega))
   have E6 := hidTPsF (pastsD_at l k (r := 6) (by omega))
   have E7 := hidTPsF (pastsD_at l k (r := 7) (by omega))
   have E8 := hidTPsF (pastsD_at l k (r := 8) (by omega))
   have E9 := hidTPsF (pastsD_at l k (r := 9) (by omega))
   have E10 := hidTPsF (pastsD_at l k (r := 10) (by omega))
   have E11 := hidTPsF (pastsD_at l k (r := 11) (by omega))
   have C0 : Hid (sumC (pastsD_f l) (k * 12) ≤ (pastsD l).cnt) := sumC_le (by omega)
   have S1 : Hid (sumC (pastsD_f l) (k * 12 + 1) = sumC (pastsD_f l) (k * 12) + (Dat.val (.int .i64 (psAt l k).e.t)).cnt) := by
    have e := sumC_succ (pastsD_f l) (k * 12 + 0)
    rw [E0.out] at e
    exact e
   have C1 : Hid (sumC (pastsD_f l) (k * 12 + 1) ≤ (pastsD l).cnt) := sumC_le (by omega)
   have S2 : Hid (sumC (pastsD_f l) (k * 12 + 2) = sumC (pastsD_f l) (k * 12 + 1) + (Dat.val (.int .i64 (psAt l k).e.s)).cnt) := by
    have e := sumC_succ (pastsD_f l) (k * 12 + 1)
    rw [E1.out] at e
    exact e
   have C2 : Hid (sumC (pastsD_f l) (k * 12 + 2) ≤ (pastsD l).cnt) := sumC_le (by omega)
   have S3 : Hid (sumC (pastsD_f l) (k * 12 + 3) = sumC (pastsD_f l) (k * 12 + 2) + (Dat.val (.int .i64 (psAt l k).e.q)).cnt) := by
    have e := sumC_succ (pastsD_f l) (k * 12 + 2)
    rw [E2.out] at e
    exact e
   have C3 : Hid (sumC (pastsD_f l) (k * 12 + 3) ≤ (pastsD l).cnt) := sumC_le (by omega)
   have S4 : Hid (sumC (pastsD_f l) (k * 12 + 4) = sumC (pastsD_f l) (k * 12 + 3) + (Dat.val (.int .i64 (psAt l k).e.d)).cnt) := by
    have e := sumC_succ (pastsD_f l) (k * 12 + 3)
    rw [E3.out] at e
    exact e
   have C4 : Hid (sumC (pastsD_f l) (k * 12 + 4) ≤ (pastsD l).cnt) := sumC_le (by omega)
   have S5 : Hid (sumC (pastsD_f l) (k * 12 + 5) = sumC (pastsD_f l) (k * 12 + 4) + (Dat.val (.int .i64 (psAt l k).e.k)).cnt) := by
    have e := sumC_succ (pastsD_f l) (k * 12 + 4)
    rw [E4.out] at e
    exact e
   have C5 : Hid (sumC (pastsD_f l) (k * 12 + 5) ≤ (pastsD l).cnt) := sumC_le (by omega)
   have S6 : Hid (sumC (pastsD_f l) (k * 12 + 6) = sumC (pastsD_f l) (k * 12 + 5) + (Dat.val (.int .i64 (psAt l k).e.v)).cnt) := by
    have e := sumC_succ (pastsD_f l) (k * 12 + 5)
    rw [E5.out] at e
    exact e
   have C6 : Hid (sumC (pastsD_f l) (k * 12 + 6) ≤ (pastsD l).cnt) := sumC_le (by omega)
   have S7 : Hid (sumC (pastsD_f l) (k * 12 + 7) = sumC (pastsD_f l) (k * 12 + 6) + (Dat.val (.int .i64 (psAt l k).e.g)).cnt) := by
    have e := sumC_succ (pastsD_f l) (k * 12 + 6)
    rw [E6.out] at e
    exact e
   have C7 : Hid (sumC (pastsD_f l) (k * 12 + 7) ≤ (pastsD l).cnt) := sumC_le (by omega)
   have S8 : Hid (sumC (pastsD_f l) (k * 12 + 8) = sumC (pastsD_f l) (k * 12 + 7) + (intsD (psAt l k).b.r).cnt) := by
    have e := sumC_succ (pastsD_f l) (k * 12 + 7)
    rw [E7.out] at e
    exact e
   have C8 : Hid (sumC (pastsD_f l) (k * 12 + 8) ≤ (pastsD l).cnt) := sumC_le (by omega)
   have S9 : Hid (sumC (pastsD_f l) (k * 12 + 9) = sumC (pastsD_f l) (k * 12 + 8) + (Dat.val (.int .i64 (psAt l k).b.q)).cnt) := by
    have e := sumC_succ (pastsD_f l) (k * 12 + 8)
    rw [E8.out] at e
    exact e
   have C9 : Hid (sumC (pastsD_f l) (k * 12 + 9) ≤ (pastsD l).cnt) := sumC_le (by omega)
   have S10 : Hid (sumC (pastsD_f l) (k * 12 + 10) = sumC (pastsD_f l) (k * 12 + 9) + (Dat.val (.int .i64 (psAt l k).b.d)).cnt) := by
    have e := sumC_succ (pastsD_f l) (k * 12 + 9)
    rw [E9.out] at e
    exact e
   have C10 : Hid (sumC (pastsD_f l) (k * 12 + 10) ≤ (pastsD l).cnt) := sumC_le (by omega)
   have S11 : Hid (sumC (pastsD_f l) (k * 12 + 11) = sumC (pastsD_f l) (k * 12 + 10) + (evsD (psAt l k).s).cnt) := by
    have e := sumC_succ (pastsD_f l) (k * 12 + 10)
    rw [E10.out] at e
    exact e
   have C11 : Hid (sumC (pastsD_f l) (k * 12 + 11) ≤ (pastsD l).cnt) := sumC_le (by omega)
   have S12 : Hid (sumC (pastsD_f l) (k * 12 + 12) = sumC (pastsD_f l) (k * 12 + 11) + (emsD (psAt l k).x).cnt) := by
    have e := sumC_succ (pastsD_f l) (k * 12 + 11)
    rw [E11.out] at e
    exact e
   have C12 : Hid (sumC (pastsD_f l) (k * 12 + 12) ≤ (pastsD l).cnt) := sumC_le (by omega)
   obtain ⟨y, hy⟩ : ∃ y : Int, y = z + (sumC (pastsD_f l) (k * 12) : Int) := ⟨_, rfl⟩
   have HY0 := hidTPsF hy
   have y0 : 0 ≤ y := by omega
   rw [← hy]
   clear hy
   have g0 : wr.cell? ⟨g, k * 12, none⟩ = some (.int .i64 y) := OwnD.marked_val (c := 12) (n := l.length) (f := (pastsD_f l)) HR.out (j := k * 12) (by omega) E0.out (by
    show _ = Value.int .i64 (z + (sumC (pastsD_f l) (k * 12) : Int))
    rw [show y = z + (sumC (pastsD_f l) (k * 12) : Int) from by (have e := HY0.out; simp only [Dat.cnt] at *; omega)])
   have g1 : wr.cell? ⟨g, k * 12 + 1, none⟩ = some (.int .i64 (y + 1)) := OwnD.marked_val (c := 12) (n := l.length) (f := (pastsD_f l)) HR.out (j := k * 12 + 1) (by omega) E1.out (by
    show _ = Value.int .i64 (z + (sumC (pastsD_f l) (k * 12 + 1) : Int))
    rw [show y + 1 = z + (sumC (pastsD_f l) (k * 12 + 1) : Int) from by (have e := HY0.out; have e1 := S1.out; simp only [Dat.cnt] at *; omega)])
   have g2 : wr.cell? ⟨g, k * 12 + 2, none⟩ = some (.int .i64 (y + 1 + 1)) := OwnD.marked_val (c := 12) (n := l.length) (f := (pastsD_f l)) HR.out (j := k * 12 + 2) (by omega) E2.out (by
    show _ = Value.int .i64 (z + (sumC (pastsD_f l) (k * 12 + 2) : Int))
    rw [show y + 1 + 1 = z + (sumC (pastsD_f l) (k * 12 + 2) : Int) from by (have e := HY0.out; have e1 := S1.out; have e2 := S2.out; simp only [Dat.cnt] at *; omega)])
   have g3 : wr.cell? ⟨g, k * 12 + 3, none⟩ = some (.int .i64 (y + 1 + 1 + 1)) := OwnD.marked_val (c := 12) (n := l.length) (f := (pastsD_f l)) HR.out (j := k * 12 + 3) (by omega) E3.out (by
    show _ = Value.int .i64 (z + (sumC (pastsD_f l) (k * 12 + 3) : Int))
    rw [show y + 1 + 1 + 1 = z + (sumC (pastsD_f l) (k * 12 + 3) : Int) from by (have e := HY0.out; have e1 := S1.out; have e2 := S2.out; have e3 := S3.out; simp only [Dat.cnt] at *; omega)])
   have g4 : wr.cell? ⟨g, k * 12 + 4, none⟩ = some (.int .i64 (y + 1 + 1 + 1 + 1)) := OwnD.marked_val (c := 12) (n := l.length) (f := (pastsD_f l)) HR.out (j := k * 12 + 4) (by omega) E4.out (by
    show _ = Value.int .i64 (z + (sumC (pastsD_f l) (k * 12 + 4) : Int))
    rw [show y + 1 + 1 + 1 + 1 = z + (sumC (pastsD_f l) (k * 12 + 4) : Int) from by (have e := HY0.out; have e1 := S1.out; have e2 := S2.out; have e3 := S3.out; have e4 := S4.out; simp only [Dat.cnt] at *; omega)])
   have g5 : wr.cell? ⟨g, k * 12 + 5, none⟩ = some (.int .i64 (y + 1 + 1 + 1 + 1 + 1)) := OwnD.marked_val (c := 12) (n := l.length) (f := (pastsD_f l)) HR.out (j := k * 12 + 5) (by omega) E5.out (by
    show _ = Value.int .i64 (z + (sumC (pastsD_f l) (k * 12 + 5) : Int))
    rw [show y + 1 + 1 + 1 + 1 + 1 = z + (sumC (pastsD_f l) (k * 12 + 5) : Int) from by (have e := HY0.out; have e1 := S1.out; have e2 := S2.out; have e3 := S3.out; have e4 := S4.out; have e5 := S5.out; simp only [Dat.cnt] at *; omega)])
   have g6 : wr.cell? ⟨g, k * 12 + 6, none⟩ = some (.int .i64 (y + 1 + 1 + 1 + 1 + 1 + 1)) := OwnD.marked_val (c := 12) (n := l.length) (f := (pastsD_f l)) HR.out (j := k * 12 + 6) (by omega) E6.out (by
    show _ = Value.int .i64 (z + (sumC (pastsD_f l) (k * 12 + 6) : Int))
    rw [show y + 1 + 1 + 1 + 1 + 1 + 1 = z + (sumC (pastsD_f l) (k * 12 + 6) : Int) from by (have e := HY0.out; have e1 := S1.out; have e2 := S2.out; have e3 := S3.out; have e4 := S4.out; have e5 := S5.out; have e6 := S6.out; simp only [Dat.cnt] at *; omega)])
   obtain ⟨u7, K7, g7, o7⟩ := OwnD.marked (c := 12) (n := l.length) (f := (pastsD_f l)) HR.out (j := k * 12 + 7) (by omega)
   rw [E7.out] at o7
   have hq7 : y + 1 + 1 + 1 + 1 + 1 + 1 + 1 = z + (sumC (pastsD_f l) (k * 12 + 7) : Int) := by (have e := HY0.out; have e1 := S1.out; have e2 := S2.out; have e3 := S3.out; have e4 := S4.out; have e5 := S5.out; have e6 := S6.out; have e7 := S7.out; simp only [Dat.cnt] at *; omega)
   have hb7 : y + 1 + 1 + 1 + 1 + 1 + 1 + 1 ≤ 1073741824 := by have := HZ.out; have := C7.out; omega
   rw [← hq7] at o7
   have O7 := hidTPsF o7
   have Q7 := hidTPsF hq7
   clear hq7 o7
   go_wp2_with fail
   clear g7 g6 g5 g4 g3 g2 g1 g0
   refine (held_ints (F := K7) (l := (psAt l k).b.r) (y + 1 + 1 + 1 + 1 + 1 + 1 + 1) (by omega) (by omega) (by omega) O7.out).mono ?_
   rintro e w8 ⟨rfl, hb⟩
   have HR8 := hidTPsF (HR.out.under hb)
   have HB8 := hidTPsF (HB.out.trans (hb.mono HB.out.size))
   clear hb
   obtain ⟨y7, hy⟩ : ∃ y7 : Int, y7 = y + 1 + 1 + 1 + 1 + 1 + 1 + 1 + ((intsD (psAt l k).b.r).cnt : Int) := ⟨_, rfl⟩
   have HY8 : Hid (y7 = z + (sumC (pastsD_f l) (k * 12 + 8) : Int)) := by
    have h8 := S8.out
    have h9 := Q7.out
    show y7 = _
    omega
   have y70 : 0 ≤ y7 := by omega
   have y71 : y7 ≤ 1073741824 := by have h7 := HZ.out; have h8 := C8.out; have h9 := HY8.out; omega
   have y72 : ¬ (y7 < 0) := by omega
   rw [← hy]
   clear hy
   have g8 : w8.cell? ⟨g, k * 12 + 8, none⟩ = some (.int .i64 y7) := OwnD.marked_val (c := 12) (n := l.length) (f := (pastsD_f l)) HR8.out (j := k * 12 + 8) (by omega) E8.out (by
    show _ = Value.int .i64 (z + (sumC (pastsD_f l) (k * 12 + 8) : Int))
    rw [show y7 = z + (sumC (pastsD_f l) (k * 12 + 8) : Int) from by (have e := HY8.out; simp only [Dat.cnt] at *; omega)])
   have g9 : w8.cell? ⟨g, k * 12 + 9, none⟩ = some (.int .i64 (y7 + 1)) := OwnD.marked_val (c := 12) (n := l.length) (f := (pastsD_f l)) HR8.out (j := k * 12 + 9) (by omega) E9.out (by
    show _ = Value.int .i64 (z + (sumC (pastsD_f l) (k * 12 + 9) : Int))
    rw [show y7 + 1 = z + (sumC (pastsD_f l) (k * 12 + 9) : Int) from by (have e := HY8.out; have e9 := S9.out; simp only [Dat.cnt] at *; omega)])
   obtain ⟨u10, K10, g10, o10⟩ := OwnD.marked (c := 12) (n := l.length) (f := (pastsD_f l)) HR8.out (j := k * 12 + 10) (by omega)
   rw [E10.out] at o10
   have hq10 : y7 + 1 + 1 = z + (sumC (pastsD_f l) (k * 12 + 10) : Int) := by (have e := HY8.out; have e9 := S9.out; have e10 := S10.out; simp only [Dat.cnt] at *; omega)
   have hb10 : y7 + 1 + 1 ≤ 1073741824 := by have := HZ.out; have := C10.out; omega
   rw [← hq10] at o10
   have O10 := hidTPsF o10
   have Q10 := hidTPsF hq10
   clear hq10 o10
   go_wp2_with fail
   clear g10 g9 g8
   refine (held_evs (F := K10) (l := (psAt l k).s) (y7 + 1 + 1) (by omega) (by omega) (by omega) O10.out).mono ?_
   rintro e w11 ⟨rfl, hb⟩
   have HR11 := hidTPsF (HR8.out.under hb)
   have HB11 := hidTPsF (HB8.out.trans (hb.mono HB8.out.size))
   clear hb
   obtain ⟨y10, hy⟩ : ∃ y10 : Int, y10 = y7 + 1 + 1 + ((evsD (psAt l k).s).cnt : Int) := ⟨_, rfl⟩
   have HY11 : Hid (y10 = z + (sumC (pastsD_f l) (k * 12 + 11) : Int)) := by
    have h8 := S11.out
    have h9 := Q10.out
    show y10 = _
    omega
   have y100 : 0 ≤ y10 := by omega
   have y101 : y10 ≤ 1073741824 := by have h7 := HZ.out; have h8 := C11.out; have h9 := HY11.out; omega
   have y102 : ¬ (y10 < 0) := by omega
   rw [← hy]
   clear hy
   obtain ⟨u11, K11, g11, o11⟩ := OwnD.marked (c := 12) (n := l.length) (f := (pastsD_f l)) HR11.out (j := k * 12 + 11) (by omega)
   rw [E11.out] at o11
   have hq11 : y10 = z + (sumC (pastsD_f l) (k * 12 + 11) : Int) := by (have e := HY11.out; simp only [Dat.cnt] at *; omega)
   have hb11 : y10 ≤ 1073741824 := by have := HZ.out; have := C11.out; omega
   rw [← hq11] at o11
   have O11 := hidTPsF o11
   have Q11 := hidTPsF hq11
   clear hq11 o11
   go_wp2_with fail
   clear g11
   refine (held_ems (F := K11) (l := (psAt l k).x) (y10) (by omega) (by omega) (by omega) O11.out).mono ?_
   rintro e w12 ⟨rfl, hb⟩
   have HR12 := hidTPsF (HR11.out.under hb)
   have HB12 := hidTPsF (HB11.out.trans (hb.mono HB11.out.size))
   clear hb
   obtain ⟨y11, hy⟩ : ∃ y11 : Int, y11 = y10 + ((emsD (psAt l k).x).cnt : Int) := ⟨_, rfl⟩
   have HY12 : Hid (y11 = z + (sumC (pastsD_f l) (k * 12 + 12) : Int)) := by
    have h8 := S12.out
    have h9 := Q11.out
    show y11 = _
    omega
   have y110 : 0 ≤ y11 := by omega
   have y111 : y11 ≤ 1073741824 := by have h7 := HZ.out; have h8 := C12.out; have h9 := HY12.out; omega
   have y112 : ¬ (y11 < 0) := by omega
   rw [← hy]
   clear hy
   go_wp2
   go_roundw
   case rel =>
    refine ⟨k + 1, by omega, by go_num, ?_, HB12.out⟩
    rw [show y11 = z + (sumC (pastsD_f l) ((k + 1) * 12) : Int) from by rw [show (k + 1) * 12 = k * 12 + 12 from by omega]; (have e := HY12.out; simp only [Dat.cnt] at *; omega)]
   case measure => simp [intOf]; omega
  ·go_wp2
   go_ret
   obtain rfl : k = l.length := by omega
   exact ⟨rfl, HB.out⟩
end Go.Proofs.YthfhibnnkpbeiaaGreat

/- General lemmas: what is owned, what is put, appends. -/
namespace Go.Proofs.YthfhibnnkpbeiaaGreat
open Go.RowKit
theorem Turns.grown {S : Nat → Prop} {a w w' : World} {row : Option Nat} (h : Turns S a w) (hg : w.grownBy w' row) (hr : ∀ k, row = some k → S k) : Turns S a w' :=
 h.trans ⟨hg.os, hg.tape, hg.output, hg.size, fun k hk hn => hg.block k hk (fun e => hn (hr k e.symm))⟩
def NewRow (w : World) (v v' : Value) : Prop := v'.ownBlock = v.ownBlock ∨ ∀ k, v'.ownBlock = some k → w.heap.size ≤ k
theorem run_append_own2 {P : Program} (w : World) (base : Nat) (t ty e : TypeId) (i : TypeInfo) (z : Value) (size bytes : Nat) (ht : P.underlying t = some (.slice e)) (hi : P.info? e = some i) (hz : i.zero = some z) (hsize : i.size = size) (hby : i.bytes = bytes) (hzs : z.cells.size = size) (hsz : 0 < size)
  (v : Value) (n : Nat) (xs : List Value) (hown : w.ownsRow base e size v n xs) (ad : Addr) (m c : Nat) (news : List Value) (hl : news.length = m * size) (hnews : ∀ j u, news[j]? = some u → w.cell? (ad.add j) = some u) (h1 : ∀ u ∈ news, u.oneCell' = true)
  (h63 : n + m ≤ maxLen) (hbytes : (n + m) * bytes ≤ 140737488355328) (hbase : base ≤ w.heap.size) :
  ∃ v' w', (Builtin.append_ #[t, t] ty #[v, .slice (some ad) m c]).run P w = .ok v' w' ∧ w'.ownsRow base e size v' (n + m) (xs ++ news) ∧ w.grownBy w' v.ownBlock ∧ NewRow w v v' := by
 obtain ⟨v', w', hr, h2, h3, _⟩ := run_append_own (P := P) w base t ty e i z size bytes ht hi hz hsize hby hzs hsz v n xs hown ad m c news hl hnews h1 h63 hbytes hbase
 refine ⟨v', w', hr, h2, h3, ?_⟩
 have hown' := hown
 obtain ⟨_, ⟨rfl, h0⟩ | ⟨g, cap, cur, rfl, hg, hc, hnc, hcm, hcs, htk⟩⟩ := hown
 ·right
  obtain ⟨v2, w2, hr2, r1, _⟩ := run_append_own (P := P) w w.heap.size t ty e i z size bytes ht hi hz hsize hby hzs hsz (.slice none 0 0) n xs ⟨hown'.1, .inl ⟨rfl, h0⟩⟩ ad m c news hl hnews h1 h63 hbytes (Nat.le_refl _)
  rw [hr] at hr2
  cases hr2
  exact fun k e => (World.ownsRow.lt r1 k e).1
 ·by_cases hroom : n + m ≤ cap
  ·left
   obtain ⟨w2, hr2, _⟩ := run_append_fits (P := P) w base t ty e i size ht hi hsize g n cap xs hown' ad m c news hl hnews h1 hroom
   rw [hr] at hr2
   cases hr2
   rfl
  ·right
   obtain ⟨v2, w2, hr2, r1, _⟩ := run_append_arg_grows (P := P) w t ty e i z size bytes ht hi hz hsize hby hzs hsz ⟨g, 0, none⟩ n cap xs hown'.1 (World.ownsRow.cells hown' rfl) ad m c news hl hnews (by omega) h63 hbytes
   rw [hr] at hr2
   cases hr2
   exact fun k e => (World.ownsRow.lt r1 k e).1
theorem step_append_own2 {P : Program} {ops : Array Oper} {o : Oper} {a : Act} {w : World} {K : Act → World → Prop} {Q : Exit → Act → World → Prop} {E : Prop}
  (hg : o.guard = none) (s x : Operand) (t : TypeId) (hop : o.op = Op.call { callee := Callee.builtin Builtin.append, args := #[s, x], argTypes := #[t, t] })
  (base : Nat) (e : TypeId) (i : TypeInfo) (z : Value) (size bytes : Nat) (h1 : P.underlying t = some (.slice e)) (h2 : P.info? e = some i) (h3 : i.zero = some z) (h4 : i.size = size) (h5 : i.bytes = bytes) (h6 : z.cells.size = size) (h7 : 0 < size)
  (v : Value) (n : Nat) (xs : List Value) (hs : a.eval s = v) (hown : w.ownsRow base e size v n xs)
  (ad : Addr) (m c : Nat) (news : List Value) (hx : a.eval x = .slice (some ad) m c) (hn : news.length = m * size) (hc : ∀ j u, news[j]? = some u → w.cell? (ad.add j) = some u) (h1c : ∀ u ∈ news, u.oneCell' = true)
  (b1 : n + m ≤ maxLen) (b2 : (n + m) * bytes ≤ 140737488355328) (hbase : base ≤ w.heap.size)
  (hK : ∀ v' w', w'.ownsRow base e size v' (n + m) (xs ++ news) → w.grownBy w' v.ownBlock → NewRow w v v' → K (a.put o.dst v') w') :
  if Region.wanted o (yielded ops a.tmps) = true then Oper.wp P o a w K Q else E := by
 have hw : Region.wanted o (yielded ops a.tmps) = true := by simp [Region.wanted, hg]
 rw [if_pos hw]
 obtain ⟨v', w', hr, q1, q2, q3⟩ := run_append_own2 (P := P) w base t o.type e i z size bytes h1 h2 h3 h4 h5 h6 h7 v n xs hown ad m c news hn hc h1c b1 b2 hbase
 unfold Oper.wp execOp
 simp only [hop, resolve, invoke, builtin, Sem.run_bind, Sem.run_pure, Result.andThen_ok, List.map_toArray, List.map_cons, List.map_nil, hs, hx, hr]
 exact hK v' w' q1 q2 q3
theorem own_rowF {B : Nat} {T : TypeId} {w : World} {x : Value} {n c : Nat} {cs : List Value} (hcs : cs.length = n * c) (h : w.ownsRow B T c x n cs) : RowF (fun k => x.ownBlock = some k) w x n c cs := by
 obtain ⟨hl, ⟨rfl, h0⟩ | ⟨g, cap, cur, rfl, hg, hc, h1, h2, h3, h4⟩⟩ := h
 ·exact ⟨hcs, none, 0, by rw [h0], by omega, by unfold maxLen; omega, .inl h0⟩
 ·have hlt : g < w.heap.size := (Array.getElem?_eq_some_iff.1 hc).1
  refine ⟨hcs, _, cap, rfl, h1, h2, .inr ⟨g, rfl, rfl, hlt, fun j hj => ?_⟩⟩
  have hj2 : j < cur.size := by rw [h3]; exact Nat.lt_of_lt_of_le hj (Nat.mul_le_mul_right c h1)
  refine ⟨?_, by simp [World.frozen?, hc]⟩
  rw [← h4, List.getElem?_take_of_lt (by omega)]
  simp [World.cell?, hc]
theorem owns_same {w w' : World} {B : Nat} {v : Value} {T : TypeId} {c n : Nat} {cs : List Value} (h : w.ownsRow B T c v n cs) (hb : ∀ k, v.ownBlock = some k → w'.heap[k]? = w.heap[k]?) : w'.ownsRow B T c v n cs := by
 obtain ⟨h0, ⟨e, h1⟩ | ⟨g, cap, cur, rfl, hg, hc, h1⟩⟩ := h
 ·exact ⟨h0, .inl ⟨e, h1⟩⟩
 ·exact ⟨h0, .inr ⟨g, cap, cur, rfl, hg, (hb g rfl).trans hc, h1⟩⟩
theorem owns_turns {S : Nat → Prop} {w w' : World} {B : Nat} {v : Value} {T : TypeId} {c n : Nat} {cs : List Value} (h : w.ownsRow B T c v n cs) (ht : Turns S w w') (hS : ∀ k, v.ownBlock = some k → ¬ S k) : w'.ownsRow B T c v n cs :=
 owns_same h fun k hk => ht.block k (World.ownsRow.lt h k hk).2 (hS k hk)
theorem rowI_empty (w : World) : (w.alloc (.cells #[] 3)).ownsRow w.heap.size 3 1 (.slice (some ⟨w.heap.size, 0, none⟩) 0 0) 0 [] :=
 ⟨rfl, .inr ⟨w.heap.size, 0, #[], rfl, Nat.le_refl _, (MapKept.heap_alloc w _).1, Nat.le_refl _, Nat.zero_le _, rfl, rfl⟩⟩
theorem Turns.belowT {S : Nat → Prop} {a b c : World} (h : Turns S a b) (k : Below a.heap.size b c) : Turns S a c :=
 ⟨k.os.trans h.os, k.tape.trans h.tape, k.output.trans h.output, Nat.le_trans h.size k.size, fun i hi hS => (k.block i hi).trans (h.block i hi hS)⟩
theorem grown_turns {w w' : World} {row : Option Nat} (h : w.grownBy w' row) : Turns (fun k => row = some k) w w' := ⟨h.os, h.tape, h.output, h.size, fun k hk hS => h.block k hk (fun e => hS e.symm)⟩
theorem owns_ne {B : Nat} {e : TypeId} {size n : Nat} {w : World} {v : Value} {xs : List Value} (h : w.ownsRow B e size v n xs) {P : Nat} {T : TypeId} {vs : Array Value} (hb : Bk w P T vs) (hT : T ≠ e) : ¬ v.ownBlock = some P := by
 intro hE
 obtain ⟨_, ⟨rfl, _⟩ | ⟨g, cap, cur, rfl, _, hc, _⟩⟩ := h
 ·simp [Value.ownBlock] at hE
 ·simp [Value.ownBlock] at hE
  subst hE
  have hb' : w.heap[g]? = some (.cells vs T) := hb
  rw [hb'] at hc
  simp at hc
  exact hT hc.2
theorem owns_lt {B : Nat} {e : TypeId} {size n : Nat} {w : World} {v : Value} {xs : List Value} (h : w.ownsRow B e size v n xs) {k : Nat} (hk : v.ownBlock = some k) : k < w.heap.size := by
 obtain ⟨_, ⟨rfl, _⟩ | ⟨g, cap, cur, rfl, _, hc, _⟩⟩ := h
 ·simp [Value.ownBlock] at hk
 ·simp [Value.ownBlock] at hk
  subst hk
  exact (Array.getElem?_eq_some_iff.1 hc).1
theorem Turns.grownNew {S : Nat → Prop} {a w w' : World} {row : Option Nat} (h : Turns S a w) (hg : w.grownBy w' row) (hr : ∀ k, row = some k → a.heap.size ≤ k) : Turns S a w' :=
 ⟨hg.os.trans h.os, hg.tape.trans h.tape, hg.output.trans h.output, Nat.le_trans h.size hg.size, fun k hk hS => (hg.block k (Nat.lt_of_lt_of_le hk h.size) (fun e => by have := hr k e.symm; omega)).trans (h.block k hk hS)⟩
theorem owns_mono {B B' : Nat} {e : TypeId} {size n : Nat} {w : World} {v : Value} {xs : List Value} (h : w.ownsRow B e size v n xs) (hB : B' ≤ B) : w.ownsRow B' e size v n xs := by
 obtain ⟨h0, h1 | ⟨g, cap, cur, e, hg, h2⟩⟩ := h
 ·exact ⟨h0, .inl h1⟩
 ·exact ⟨h0, .inr ⟨g, cap, cur, e, Nat.le_trans hB hg, h2⟩⟩
theorem intCells_ones (l : List Int) : ∀ u ∈ intCells l, u.oneCell' = true := by
 intro u hu
 obtain ⟨z, _, rfl⟩ := List.mem_map.1 hu
 rfl
theorem owns_slice {B : Nat} {e : TypeId} {size n : Nat} {w : World} {v : Value} {xs : List Value} (h : w.ownsRow B e size v n xs) : ∃ a cap, v = .slice a n cap := by
 obtain ⟨_, ⟨rfl, h0⟩ | ⟨g, cap, cur, rfl, _⟩⟩ := h
 ·exact ⟨none, 0, by rw [h0]⟩
 ·exact ⟨_, _, rfl⟩
theorem owns_apart {B B' : Nat} {e e' : TypeId} {size n size' n' : Nat} {w : World} {v v' : Value} {xs xs' : List Value} (h : w.ownsRow B e size v n xs) (h' : w.ownsRow B' e' size' v' n' xs') (he : e ≠ e') {k : Nat} (hk : v.ownBlock = some k) : ¬ v'.ownBlock = some k := by
 intro hk'
 obtain ⟨_, ⟨rfl, _⟩ | ⟨g, cap, cur, rfl, _, hc, _⟩⟩ := h
 ·simp [Value.ownBlock] at hk
 ·obtain ⟨_, ⟨rfl, _⟩ | ⟨g', cap', cur', rfl, _, hc', _⟩⟩ := h'
  ·simp [Value.ownBlock] at hk'
  ·simp [Value.ownBlock] at hk hk'
   subst hk hk'
   rw [hc] at hc'
   simp at hc'
   exact he hc'.2
theorem wpList_append_own2 {P : Program} {ops : Array Oper} {rest : List Oper} {o : Oper} {a : Act} {Q : Exit → Act → World → Prop} (w : World) (hgd : o.guard = none) (s x : Operand) (t : TypeId)
  (ho : o.op = .call { callee := .builtin .append, args := #[s, x], argTypes := #[t, t] })
  (base : Nat) (e : TypeId) (i : TypeInfo) (z : Value) (size bytes : Nat) (ht : P.underlying t = some (.slice e)) (hi : P.info? e = some i) (hz : i.zero = some z)
  (hsize : i.size = size) (hby : i.bytes = bytes) (hzs : z.cells.size = size) (hsz : 0 < size)
  (v : Value) (n : Nat) (xs : List Value) (hs : a.eval s = v) (hown : w.ownsRow base e size v n xs)
  (ad : Addr) (m c : Nat) (news : List Value) (hx : a.eval x = .slice (some ad) m c) (hl : news.length = m * size) (hnews : ∀ j u, news[j]? = some u → w.cell? (ad.add j) = some u) (h1 : ∀ u ∈ news, u.oneCell' = true)
  (h63 : n + m ≤ maxLen) (hbytes : (n + m) * bytes ≤ 140737488355328) (hbase : base ≤ w.heap.size)
  (h : ∀ v' w', w'.ownsRow base e size v' (n + m) (xs ++ news) → w.grownBy w' v.ownBlock → NewRow w v v' → wpList P ops Q rest (a.put o.dst v') w') : wpList P ops Q (o :: rest) a w :=
 wpList_plain hgd fun _ hK => by
  obtain ⟨v', w', hr, q1, q2, q3⟩ := run_append_own2 (P := P) w base t o.type e i z size bytes ht hi hz hsize hby hzs hsz v n xs hown ad m c news hl hnews h1 h63 hbytes hbase
  unfold Oper.wp execOp
  simp only [ho, resolve, invoke, builtin, Sem.run_bind, Sem.run_pure, Result.andThen_ok, List.map_toArray, List.map_cons, List.map_nil, hs, hx, hr]
  exact hK _ _ (h v' w' q1 q2 q3)
abbrev put3s (w : World) (P : Nat) (v0 v1 v2 : Value) : World := ((w.setCell ⟨P, 0, none⟩ v0).setCell ⟨P, 1, none⟩ v1).setCell ⟨P, 2, none⟩ v2
theorem put3s_turns (w : World) (P : Nat) (v0 v1 v2 : Value) : Turns (fun b => b = P) w (put3s w P v0 v1 v2) :=
 ((put1_turns w P 0 v0).trans (put1_turns _ P 1 v1)).trans (put1_turns _ P 2 v2)
theorem Bk.put3s {w : World} {P : Nat} {T : TypeId} {a0 a1 a2 : Value} (h : Bk w P T #[a0, a1, a2]) (v0 v1 v2 : Value) : Bk (put3s w P v0 v1 v2) P T #[v0, v1, v2] :=
 ((h.put 0 v0).put 1 v1).put 2 v2
abbrev put7s (w : World) (P : Nat) (v0 v1 v2 v3 v4 v5 v6 : Value) : World := ((((((w.setCell ⟨P, 0, none⟩ v0).setCell ⟨P, 1, none⟩ v1).setCell ⟨P, 2, none⟩ v2).setCell ⟨P, 3, none⟩ v3).setCell ⟨P, 4, none⟩ v4).setCell ⟨P, 5, none⟩ v5).setCell ⟨P, 6, none⟩ v6
theorem put7s_turns (w : World) (P : Nat) (v0 v1 v2 v3 v4 v5 v6 : Value) : Turns (fun b => b = P) w (put7s w P v0 v1 v2 v3 v4 v5 v6) :=
 ((((((put1_turns w P 0 v0).trans (put1_turns _ P 1 v1)).trans (put1_turns _ P 2 v2)).trans (put1_turns _ P 3 v3)).trans (put1_turns _ P 4 v4)).trans (put1_turns _ P 5 v5)).trans (put1_turns _ P 6 v6)
theorem Bk.put7s {w : World} {P : Nat} {T : TypeId} {a0 a1 a2 a3 a4 a5 a6 : Value} (h : Bk w P T #[a0, a1, a2, a3, a4, a5, a6]) (v0 v1 v2 v3 v4 v5 v6 : Value) : Bk (put7s w P v0 v1 v2 v3 v4 v5 v6) P T #[v0, v1, v2, v3, v4, v5, v6] := by
 have h0 : Bk (w.setCell ⟨P, 0, none⟩ v0) P T #[v0, a1, a2, a3, a4, a5, a6] := h.put 0 v0
 have h1 : Bk ((w.setCell ⟨P, 0, none⟩ v0).setCell ⟨P, 1, none⟩ v1) P T #[v0, v1, a2, a3, a4, a5, a6] := h0.put 1 v1
 have h2 : Bk (((w.setCell ⟨P, 0, none⟩ v0).setCell ⟨P, 1, none⟩ v1).setCell ⟨P, 2, none⟩ v2) P T #[v0, v1, v2, a3, a4, a5, a6] := h1.put 2 v2
 have h3 : Bk ((((w.setCell ⟨P, 0, none⟩ v0).setCell ⟨P, 1, none⟩ v1).setCell ⟨P, 2, none⟩ v2).setCell ⟨P, 3, none⟩ v3) P T #[v0, v1, v2, v3, a4, a5, a6] := h2.put 3 v3
 have h4 : Bk (((((w.setCell ⟨P, 0, none⟩ v0).setCell ⟨P, 1, none⟩ v1).setCell ⟨P, 2, none⟩ v2).setCell ⟨P, 3, none⟩ v3).setCell ⟨P, 4, none⟩ v4) P T #[v0, v1, v2, v3, v4, a5, a6] := h3.put 4 v4
 have h5 : Bk ((((((w.setCell ⟨P, 0, none⟩ v0).setCell ⟨P, 1, none⟩ v1).setCell ⟨P, 2, none⟩ v2).setCell ⟨P, 3, none⟩ v3).setCell ⟨P, 4, none⟩ v4).setCell ⟨P, 5, none⟩ v5) P T #[v0, v1, v2, v3, v4, v5, a6] := h4.put 5 v5
 have h6 : Bk (((((((w.setCell ⟨P, 0, none⟩ v0).setCell ⟨P, 1, none⟩ v1).setCell ⟨P, 2, none⟩ v2).setCell ⟨P, 3, none⟩ v3).setCell ⟨P, 4, none⟩ v4).setCell ⟨P, 5, none⟩ v5).setCell ⟨P, 6, none⟩ v6) P T #[v0, v1, v2, v3, v4, v5, v6] := h5.put 6 v6
 exact h6
theorem Turns.sub {S S' : Nat → Prop} {w w' : World} (h : Turns S w w') (hS : ∀ k, S k → S' k) : Turns S' w w' := ⟨h.os, h.tape, h.output, h.size, fun k hk hn => h.block k hk (fun e => hn (hS k e))⟩
end Go.Proofs.YthfhibnnkpbeiaaGreat

/- Append of a source that may be empty, or nil. -/
namespace Go.Proofs.YthfhibnnkpbeiaaGreat
open Go.RowKit
theorem hidPApp {p : Prop} (h : p) : Hid p := h
def SrcC (w : World) (x : Value) (size m : Nat) (news : List Value) : Prop := news.length = m * size ∧ ∃ a c, x = .slice a m c ∧ (m = 0 ∨ ∃ b off, a = some ⟨b, off, none⟩ ∧ b < w.heap.size ∧ ∀ j, j < m * size → w.cell? ⟨b, off + j, none⟩ = news[j]?)
theorem SrcC.below {w w' : World} {x : Value} {size m : Nat} {news : List Value} (h : SrcC w x size m news) (hb : Below w.heap.size w w') : SrcC w' x size m news := by
 obtain ⟨hn, a, c, rfl, h⟩ := h
 refine ⟨hn, a, c, rfl, h.imp id ?_⟩
 rintro ⟨b, off, rfl, hlt, hc⟩
 exact ⟨b, off, rfl, Nat.lt_of_lt_of_le hlt hb.size, fun j hj => (hb.cell (p := ⟨b, off + j, none⟩) hlt).trans (hc j hj)⟩
theorem IsD.src {w : World} {x : Value} {c n : Nat} {cs : List Value} (h : IsD w x (flat c n cs)) (hl : cs.length = n * c) : SrcC w x c n cs := by
 obtain ⟨a, cap, rfl, h1, h2, h⟩ := IsD.parts (c := c) (n := n) h
 refine ⟨hl, a, cap, rfl, h.imp id ?_⟩
 rintro ⟨b, off, rfl, hlt, hc⟩
 refine ⟨b, off, rfl, hlt, fun j hj => ?_⟩
 obtain ⟨u, hu, hd⟩ := hc j hj
 have := IsD.val_eq hd
 subst this
 rw [hu, List.getElem?_eq_getElem (by omega)]
 simp [show j < cs.length by omega]
theorem IsD.srcI {w : World} {x : Value} {l : List Int} (h : IsD w x (intsD l)) : SrcC w x 1 l.length (intCells l) := IsD.src h (by rw [intCells_length]; omega)
theorem IsD.srcEv {w : World} {x : Value} {l : List Ev} (h : IsD w x (evsD l)) : SrcC w x 7 l.length (cellsL l) := IsD.src h (cellsL_length l)
theorem IsD.srcX {w : World} {x : Value} {l : List Em} (h : IsD w x (emsD l)) : SrcC w x 3 l.length (cellsX l) := IsD.src h (cellsX_length l)
theorem run_append_none_any {P : Program} {w : World} (base : Nat) (t ty e : TypeId) (i : TypeInfo) (size : Nat) (ht : P.underlying t = some (.slice e)) (hi : P.info? e = some i) (v : Value) (n c : Nat) (xs : List Value) (hown : w.ownsRow base e size v n xs) :
  (Builtin.append_ #[t, t] ty #[v, .slice none 0 c]).run P w = .ok v w := by
 rcases hown.2 with ⟨rfl, rfl⟩ | ⟨g, cap, cur, rfl, _, _, hnc, _⟩
 ·simp [Builtin.append_, run_underlying ht, sizeOf, typeInfo, hi, Builtin.lenOf, Builtin.firstCells]
 ·simp [Builtin.append_, run_underlying ht, sizeOf, typeInfo, hi, Builtin.lenOf, Builtin.firstCells, hnc, storeCells]
theorem step_append_src {P : Program} {ops : Array Oper} {o : Oper} {a : Act} {w : World} {K : Act → World → Prop} {Q : Exit → Act → World → Prop} {E : Prop}
  (hg : o.guard = none) (s x : Operand) (t : TypeId) (hop : o.op = Op.call { callee := Callee.builtin Builtin.append, args := #[s, x], argTypes := #[t, t] })
  (base : Nat) (e : TypeId) (i : TypeInfo) (z : Value) (size bytes : Nat) (h1 : P.underlying t = some (.slice e)) (h2 : P.info? e = some i) (h3 : i.zero = some z) (h4 : i.size = size) (h5 : i.bytes = bytes) (h6 : z.cells.size = size) (h7 : 0 < size)
  (v : Value) (n : Nat) (xs : List Value) (hs : a.eval s = v) (hown : w.ownsRow base e size v n xs)
  (u : Value) (m : Nat) (news : List Value) (hx : a.eval x = u) (hc : SrcC w u size m news) (h1c : ∀ u ∈ news, u.oneCell' = true)
  (b1 : n + m ≤ maxLen) (b2 : (n + m) * bytes ≤ 140737488355328) (hbase : base ≤ w.heap.size)
  (hK : ∀ v' w', w'.ownsRow base e size v' (n + m) (xs ++ news) → w.grownBy w' v.ownBlock → NewRow w v v' → K (a.put o.dst v') w') :
  if Region.wanted o (yielded ops a.tmps) = true then Oper.wp P o a w K Q else E := by
 obtain ⟨hn, au, c, rfl, hc⟩ := hc
 have some_case : ∀ ad : Addr, au = some ad → (∀ j u, news[j]? = some u → w.cell? (ad.add j) = some u) → (if Region.wanted o (yielded ops a.tmps) = true then Oper.wp P o a w K Q else E) := fun ad e1 e2 => by
  subst e1
  exact step_append_own2 hg s x t hop base e i z size bytes h1 h2 h3 h4 h5 h6 h7 v n xs hs hown ad m c news hx hn e2 h1c b1 b2 hbase hK
 rcases hc with rfl | ⟨b, off, rfl, hlt, hcc⟩
 ·have hnil : news = [] := List.eq_nil_of_length_eq_zero (by simpa using hn)
  subst hnil
  cases au with
  | some ad => exact some_case ad rfl (fun j u hu => by simp at hu)
  | none =>
   have hw : Region.wanted o (yielded ops a.tmps) = true := by simp [Region.wanted, hg]
   rw [if_pos hw]
   have hr := run_append_none_any (P := P) (w := w) base t o.type e i size h1 h2 v n c xs hown
   unfold Oper.wp execOp
   simp only [hop, resolve, invoke, builtin, Sem.run_bind, Sem.run_pure, Result.andThen_ok, List.map_toArray, List.map_cons, List.map_nil, hs, hx, hr]
   exact hK v w (by simpa using hown) (grown_refl w _) (.inl rfl)
 ·refine some_case ⟨b, off, none⟩ rfl (fun j u hu => ?_)
  have hj : j < m * size := by rw [← hn]; exact (List.getElem?_eq_some_iff.1 hu).1
  rw [Addr.add_lit, hcc j hj]
  exact hu
theorem wpList_append_src {P : Program} {ops : Array Oper} {rest : List Oper} {o : Oper} {a : Act} {Q : Exit → Act → World → Prop} (w : World) (hgd : o.guard = none) (s x : Operand) (t : TypeId)
  (ho : o.op = .call { callee := .builtin .append, args := #[s, x], argTypes := #[t, t] })
  (base : Nat) (e : TypeId) (i : TypeInfo) (z : Value) (size bytes : Nat) (ht : P.underlying t = some (.slice e)) (hi : P.info? e = some i) (hz : i.zero = some z)
  (hsize : i.size = size) (hby : i.bytes = bytes) (hzs : z.cells.size = size) (hsz : 0 < size)
  (v : Value) (n : Nat) (xs : List Value) (hs : a.eval s = v) (hown : w.ownsRow base e size v n xs)
  (u : Value) (m : Nat) (news : List Value) (hx : a.eval x = u) (hc : SrcC w u size m news) (h1 : ∀ u ∈ news, u.oneCell' = true)
  (h63 : n + m ≤ maxLen) (hbytes : (n + m) * bytes ≤ 140737488355328) (hbase : base ≤ w.heap.size)
  (h : ∀ v' w', w'.ownsRow base e size v' (n + m) (xs ++ news) → w.grownBy w' v.ownBlock → NewRow w v v' → wpList P ops Q rest (a.put o.dst v') w') : wpList P ops Q (o :: rest) a w := by
 obtain ⟨hn, au, c, rfl, hc⟩ := hc
 have some_case : ∀ ad : Addr, au = some ad → (∀ j u, news[j]? = some u → w.cell? (ad.add j) = some u) → wpList P ops Q (o :: rest) a w := fun ad e1 e2 => by
  subst e1
  exact wpList_append_own2 w hgd s x t ho base e i z size bytes ht hi hz hsize hby hzs hsz v n xs hs hown ad m c news hx hn e2 h1 h63 hbytes hbase h
 rcases hc with rfl | ⟨b, off, rfl, hlt, hcc⟩
 ·have hnil : news = [] := List.eq_nil_of_length_eq_zero (by simpa using hn)
  subst hnil
  cases au with
  | some ad => exact some_case ad rfl (fun j u hu => by simp at hu)
  | none =>
   refine wpList_plain hgd fun _ hK => ?_
   have hr := run_append_none_any (P := P) (w := w) base t o.type e i size ht hi v n c xs hown
   unfold Oper.wp execOp
   simp only [ho, resolve, invoke, builtin, Sem.run_bind, Sem.run_pure, Result.andThen_ok, List.map_toArray, List.map_cons, List.map_nil, hs, hx, hr]
   exact hK _ _ (h v w (by simpa using hown) (grown_refl w _) (.inl rfl))
 ·refine some_case ⟨b, off, none⟩ rfl (fun j u hu => ?_)
  have hj : j < m * size := by rw [← hn]; exact (List.getElem?_eq_some_iff.1 hu).1
  rw [Addr.add_lit, hcc j hj]
  exact hu
theorem cellsL_ones (l : List Ev) : ∀ u ∈ cellsL l, u.oneCell' = true := fun u hu => by obtain ⟨i, rfl⟩ := evs_plain l u hu; rfl
theorem cellsX_ones (l : List Em) : ∀ u ∈ cellsX l, u.oneCell' = true := fun u hu => by obtain ⟨i, rfl⟩ := ems_plain l u hu; rfl
set_option maxRecDepth 100000 in
set_option maxHeartbeats 2000000 in
theorem l1own_src (x : Value) (l : List Ev) (w : World) (hl : l.length ≤ 1048577) (h : SrcC w x 7 l.length (cellsL l)) :
  Calls Tryz.prog 66 #[x] w fun e w' => ∃ y, e = .returned y ∧ w'.ownsRow w.heap.size 99 7 y l.length (cellsL l) ∧ Below w.heap.size w w' := by
 obtain ⟨i0, hi, hz0, hz1, hz2⟩ := info_parts info25
 have hb : Below w.heap.size w (w.alloc (.cells #[] 99)) := (Below.refl _ w).alloc (Nat.le_refl _) _
 have HS := hidPApp (h.below hb)
 have HB := hidPApp hb
 obtain ⟨_, a, c, rfl, _⟩ := h
 clear hb
 go_enter Tryz.func66, Tryz.ntmps66
 go_wp2_with (at_builtin; refine wpList_append_src _ rfl _ _ 29 rfl w.heap.size 99 i0 _ 7 56 Tryz.underlying29 hi hz0 hz1 hz2 rfl (by decide) (.slice (some ⟨w.heap.size, 0, none⟩) 0 0) 0 [] rfl (row_empty w) (.slice a l.length c) l.length (cellsL l) rfl HS.out (cellsL_ones l) (by unfold maxLen; omega) (by omega) (by simp) ?_; intro v' w' hown hgrow hnew)
 go_ret
 rw [Nat.zero_add, List.nil_append] at hown
 exact ⟨_, rfl, hown, HB.out.grown hgrow (by simp) (fun k e => by cases e; exact Nat.le_refl _)⟩
end Go.Proofs.YthfhibnnkpbeiaaGreat

