/- heldPastS: the marks are found again. -/
import Derived.Test.YthfhibnnkpbeiaaGreatExactKernelNewG07
import Derived.Test.YthfhibnnkpbeiaaGreatExactKernelNewG08
namespace Go.Proofs.YthfhibnnkpbeiaaGreat
open Go.RowKit
set_option maxRecDepth 100000 in
set_option maxHeartbeats 8000000 in
theorem held_pasts {F : Nat → Prop} {x : Value} {l : List Ps} {w : World} (z : Int) (hn : (pastsD l).wt ≤ 1048577) (hz0 : 0 ≤ z) (hz1 : z + ((pastsD l).cnt : Int) ≤ 1073741824) (h : OwnD w F x ((pastsD l).mark z)) :
  Calls Tryz.prog 91 #[x, .int .i64 z] w fun e w' => e = .returned (.int .i64 (z + ((pastsD l).cnt : Int))) ∧ Below w.heap.size w w' := by
 obtain ⟨a, cap, rfl, h2, ha⟩ := OwnD.mslice (c := 12) (n := l.length) h
 have HR0 : Hid (OwnD w F (.slice a l.length cap) ((pastsD l).mark z)) := h
 have HS : Hid ((pastsD l).wt ≤ 1048577) := hn
 have HZ : Hid (z + ((pastsD l).cnt : Int) ≤ 1073741824) := hz1
 have hl2 : l.length ≤ 1048577 := by rw [pastsD_wt] at hn; omega
 clear h hn hz1 h2
 go_enter Tryz.func91, Tryz.ntmps91
 go_wp2
 go_loopw [5, 1] (fun i y wr => ∃ k : Nat, k ≤ l.length ∧ i = .int .i64 k ∧ y = .int .i64 (z + (sumC (pastsD_f l) (k * 12) : Int)) ∧ Below w.heap.size w wr) (fun i _ _ => l.length - (intOf i).toNat)
 case atStart => exact ⟨0, Nat.zero_le _, rfl, by simp [sumC, sumL], Below.refl _ _⟩
 case round =>
  obtain ⟨k, hk, rfl, rfl, hB⟩ := hrel
  have HB : Hid (Below w.heap.size w wr) := hB
  clear hB
  by_cases hlt : k < l.length
  ·obtain ⟨g, rfl⟩ := ha.resolve_left (by omega)
   have HR : Hid (OwnD wr F (.slice (some ⟨g, 0, none⟩) l.length cap) ((pastsD l).mark z)) := HR0.out.under HB.out
   have hwt : (psAt l k).wt ≤ 1048577 := Nat.le_trans (Ps.wt_le hlt) HS.out
   unfold Ps.wt at hwt
   simp only [ems_wt, evs_wt, ints_wt] at hwt
   have E0 : Hid ((pastsD_f l) (k * 12 + 0) = Dat.val (.int .i64 (psAt l k).e.t)) := pastsD_at l k (r := 0) (by omega)
   have E1 : Hid ((pastsD_f l) (k * 12 + 1) = Dat.val (.int .i64 (psAt l k).e.s)) := pastsD_at l k (r := 1) (by omega)
   have E2 : Hid ((pastsD_f l) (k * 12 + 2) = Dat.val (.int .i64 (psAt l k).e.q)) := pastsD_at l k (r := 2) (by omega)
   have E3 : Hid ((pastsD_f l) (k * 12 + 3) = Dat.val (.int .i64 (psAt l k).e.d)) := pastsD_at l k (r := 3) (by omega)
   have E4 : Hid ((pastsD_f l) (k * 12 + 4) = Dat.val (.int .i64 (psAt l k).e.k)) := pastsD_at l k (r := 4) (by omega)
   have E5 : Hid ((pastsD_f l) (k * 12 + 5) = Dat.val (.int .i64 (psAt l k).e.v)) := pastsD_at l k (r := 5) (by omega)
   have E6 : Hid ((pastsD_f l) (k * 12 + 6) = Dat.val (.int .i64 (psAt l k).e.g)) := pastsD_at l k (r := 6) (by omega)
   have E7 : Hid ((pastsD_f l) (k * 12 + 7) = intsD (psAt l k).b.r) := pastsD_at l k (r := 7) (by omega)
   have E8 : Hid ((pastsD_f l) (k * 12 + 8) = Dat.val (.int .i64 (psAt l k).b.q)) := pastsD_at l k (r := 8) (by omega)
   have E9 : Hid ((pastsD_f l) (k * 12 + 9) = Dat.val (.int .i64 (psAt l k).b.d)) := pastsD_at l k (r := 9) (by omega)
   have E10 : Hid ((pastsD_f l) (k * 12 + 10) = evsD (psAt l k).s) := pastsD_at l k (r := 10) (by omega)
   have E11 : Hid ((pastsD_f l) (k * 12 + 11) = emsD (psAt l k).x) := pastsD_at l k (r := 11) (by omega)
   have C0 : Hid (sumC (pastsD_f l) (k * 12) ≤ (pastsD l).cnt) := sumC_le (by omega)
   have S1 : Hid (sumC (pastsD_f l) (k * 12 + 1) = sumC (pastsD_f l) (k * 12) + (Dat.val (.int .i64 (psAt l k).e.t)).cnt) := by
    have e := sumC_succ (pastsD_f l) (k * 12 + 0)
    rw [E0.out] at e
    exact e
   have C1 : Hid (sumC (pastsD_f l) (k * 12 + 1) ≤ (pastsD l).cnt) := sumC_le (by omega)
   have S2 : Hid (sumC (pastsD_f l) (k * 12 + 2) = sumC (pastsD_f l) (k * 12 + 1) + (Dat.val (.int .i64 (psAt l k).e.s)).cnt) := by
    have e := sumC_succ (pastsD_f l) (k * 12 + 1)
    rw [E1.out] at e
    exact e
   have C2 : Hid (sumC (pastsD_f l) (k * 12 + 2) ≤ (pastsD l).cnt) := sumC_le (by omega)
   have S3 : Hid (sumC (pastsD_f l) (k * 12 + 3) = sumC (pastsD_f l) (k * 12 + 2) + (Dat.val (.int .i64 (psAt l k).e.q)).cnt) := by
    have e := sumC_succ (pastsD_f l) (k * 12 + 2)
    rw [E2.out] at e
    exact e
   have C3 : Hid (sumC (pastsD_f l) (k * 12 + 3) ≤ (pastsD l).cnt) := sumC_le (by omega)
   have S4 : Hid (sumC (pastsD_f l) (k * 12 + 4) = sumC (pastsD_f l) (k * 12 + 3) + (Dat.val (.int .i64 (psAt l k).e.d)).cnt) := by
    have e := sumC_succ (pastsD_f l) (k * 12 + 3)
    rw [E3.out] at e
    exact e
   have C4 : Hid (sumC (pastsD_f l) (k * 12 + 4) ≤ (pastsD l).cnt) := sumC_le (by omega)
   have S5 : Hid (sumC (pastsD_f l) (k * 12 + 5) = sumC (pastsD_f l) (k * 12 + 4) + (Dat.val (.int .i64 (psAt l k).e.k)).cnt) := by
    have e := sumC_succ (pastsD_f l) (k * 12 + 4)
    rw [E4.out] at e
    exact e
   have C5 : Hid (sumC (pastsD_f l) (k * 12 + 5) ≤ (pastsD l).cnt) := sumC_le (by omega)
   have S6 : Hid (sumC (pastsD_f l) (k * 12 + 6) = sumC (pastsD_f l) (k * 12 + 5) + (Dat.val (.int .i64 (psAt l k).e.v)).cnt) := by
    have e := sumC_succ (pastsD_f l) (k * 12 + 5)
    rw [E5.out] at e
    exact e
   have C6 : Hid (sumC (pastsD_f l) (k * 12 + 6) ≤ (pastsD l).cnt) := sumC_le (by omega)
   have S7 : Hid (sumC (pastsD_f l) (k * 12 + 7) = sumC (pastsD_f l) (k * 12 + 6) + (Dat.val (.int .i64 (psAt l k).e.g)).cnt) := by
    have e := sumC_succ (pastsD_f l) (k * 12 + 6)
    rw [E6.out] at e
    exact e
   have C7 : Hid (sumC (pastsD_f l) (k * 12 + 7) ≤ (pastsD l).cnt) := sumC_le (by omega)
   have S8 : Hid (sumC (pastsD_f l) (k * 12 + 8) = sumC (pastsD_f l) (k * 12 + 7) + (intsD (psAt l k).b.r).cnt) := by
    have e := sumC_succ (pastsD_f l) (k * 12 + 7)
    rw [E7.out] at e
    exact e
   have C8 : Hid (sumC (pastsD_f l) (k * 12 + 8) ≤ (pastsD l).cnt) := sumC_le (by omega)
   have S9 : Hid (sumC (pastsD_f l) (k * 12 + 9) = sumC (pastsD_f l) (k * 12 + 8) + (Dat.val (.int .i64 (psAt l k).b.q)).cnt) := by
    have e := sumC_succ (pastsD_f l) (k * 12 + 8)
    rw [E8.out] at e
    exact e
   have C9 : Hid (sumC (pastsD_f l) (k * 12 + 9) ≤ (pastsD l).cnt) := sumC_le (by omega)
   have S10 : Hid (sumC (pastsD_f l) (k * 12 + 10) = sumC (pastsD_f l) (k * 12 + 9) + (Dat.val (.int .i64 (psAt l k).b.d)).cnt) := by
    have e := sumC_succ (pastsD_f l) (k * 12 + 9)
    rw [E9.out] at e
    exact e
   have C10 : Hid (sumC (pastsD_f l) (k * 12 + 10) ≤ (pastsD l).cnt) := sumC_le (by omega)
   have S11 : Hid (sumC (pastsD_f l) (k * 12 + 11) = sumC (pastsD_f l) (k * 12 + 10) + (evsD (psAt l k).s).cnt) := by
    have e := sumC_succ (pastsD_f l) (k * 12 + 10)
    rw [E10.out] at e
    exact e
   have C11 : Hid (sumC (pastsD_f l) (k * 12 + 11) ≤ (pastsD l).cnt) := sumC_le (by omega)
   have S12 : Hid (sumC (pastsD_f l) (k * 12 + 12) = sumC (pastsD_f l) (k * 12 + 11) + (emsD (psAt l k).x).cnt) := by
    have e := sumC_succ (pastsD_f l) (k * 12 + 11)
    rw [E11.out] at e
    exact e
   have C12 : Hid (sumC (pastsD_f l) (k * 12 + 12) ≤ (pastsD l).cnt) := sumC_le (by omega)
   obtain ⟨y, hy⟩ : ∃ y : Int, y = z + (sumC (pastsD_f l) (k * 12) : Int) := ⟨_, rfl⟩
   have HY0 : Hid (y = z + (sumC (pastsD_f l) (k * 12) : Int)) := hy
   have y0 : 0 ≤ y := by omega
   rw [← hy]
   clear hy
   have g0 : wr.cell? ⟨g, k * 12, none⟩ = some (.int .i64 y) := OwnD.marked_val (c := 12) (n := l.length) (f := (pastsD_f l)) HR.out (j := k * 12) (by omega) E0.out (by
    show _ = Value.int .i64 (z + (sumC (pastsD_f l) (k * 12) : Int))
    rw [show y = z + (sumC (pastsD_f l) (k * 12) : Int) from by (have e := HY0.out; simp only [Dat.cnt] at *; omega)])
   have g1 : wr.cell? ⟨g, k * 12 + 1, none⟩ = some (.int .i64 (y + 1)) := OwnD.marked_val (c := 12) (n := l.length) (f := (pastsD_f l)) HR.out (j := k * 12 + 1) (by omega) E1.out (by
    show _ = Value.int .i64 (z + (sumC (pastsD_f l) (k * 12 + 1) : Int))
    rw [show y + 1 = z + (sumC (pastsD_f l) (k * 12 + 1) : Int) from by (have e := HY0.out; have e1 := S1.out; simp only [Dat.cnt] at *; omega)])
   have g2 : wr.cell? ⟨g, k * 12 + 2, none⟩ = some (.int .i64 (y + 1 + 1)) := OwnD.marked_val (c := 12) (n := l.length) (f := (pastsD_f l)) HR.out (j := k * 12 + 2) (by omega) E2.out (by
    show _ = Value.int .i64 (z + (sumC (pastsD_f l) (k * 12 + 2) : Int))
    rw [show y + 1 + 1 = z + (sumC (pastsD_f l) (k * 12 + 2) : Int) from by (have e := HY0.out; have e1 := S1.out; have e2 := S2.out; simp only [Dat.cnt] at *; omega)])
   have g3 : wr.cell? ⟨g, k * 12 + 3, none⟩ = some (.int .i64 (y + 1 + 1 + 1)) := OwnD.marked_val (c := 12) (n := l.length) (f := (pastsD_f l)) HR.out (j := k * 12 + 3) (by omega) E3.out (by
    show _ = Value.int .i64 (z + (sumC (pastsD_f l) (k * 12 + 3) : Int))
    rw [show y + 1 + 1 + 1 = z + (sumC (pastsD_f l) (k * 12 + 3) : Int) from by (have e := HY0.out; have e1 := S1.out; have e2 := S2.out; have e3 := S3.out; simp only [Dat.cnt] at *; omega)])
   have g4 : wr.cell? ⟨g, k * 12 + 4, none⟩ = some (.int .i64 (y + 1 + 1 + 1 + 1)) := OwnD.marked_val (c := 12) (n := l.length) (f := (pastsD_f l)) HR.out (j := k * 12 + 4) (by omega) E4.out (by
    show _ = Value.int .i64 (z + (sumC (pastsD_f l) (k * 12 + 4) : Int))
    rw [show y + 1 + 1 + 1 + 1 = z + (sumC (pastsD_f l) (k * 12 + 4) : Int) from by (have e := HY0.out; have e1 := S1.out; have e2 := S2.out; have e3 := S3.out; have e4 := S4.out; simp only [Dat.cnt] at *; omega)])
   have g5 : wr.cell? ⟨g, k * 12 + 5, none⟩ = some (.int .i64 (y + 1 + 1 + 1 + 1 + 1)) := OwnD.marked_val (c := 12) (n := l.length) (f := (pastsD_f l)) HR.out (j := k * 12 + 5) (by omega) E5.out (by
    show _ = Value.int .i64 (z + (sumC (pastsD_f l) (k * 12 + 5) : Int))
    rw [show y + 1 + 1 + 1 + 1 + 1 = z + (sumC (pastsD_f l) (k * 12 + 5) : Int) from by (have e := HY0.out; have e1 := S1.out; have e2 := S2.out; have e3 := S3.out; have e4 := S4.out; have e5 := S5.out; simp only [Dat.cnt] at *; omega)])
   have g6 : wr.cell? ⟨g, k * 12 + 6, none⟩ = some (.int .i64 (y + 1 + 1 + 1 + 1 + 1 + 1)) := OwnD.marked_val (c := 12) (n := l.length) (f := (pastsD_f l)) HR.out (j := k * 12 + 6) (by omega) E6.out (by
    show _ = Value.int .i64 (z + (sumC (pastsD_f l) (k * 12 + 6) : Int))
    rw [show y + 1 + 1 + 1 + 1 + 1 + 1 = z + (sumC (pastsD_f l) (k * 12 + 6) : Int) from by (have e := HY0.out; have e1 := S1.out; have e2 := S2.out; have e3 := S3.out; have e4 := S4.out; have e5 := S5.out; have e6 := S6.out; simp only [Dat.cnt] at *; omega)])
   obtain ⟨u7, K7, g7, o7⟩ := OwnD.marked (c := 12) (n := l.length) (f := (pastsD_f l)) HR.out (j := k * 12 + 7) (by omega)
   rw [E7.out] at o7
   have hq7 : y + 1 + 1 + 1 + 1 + 1 + 1 + 1 = z + (sumC (pastsD_f l) (k * 12 + 7) : Int) := by (have e := HY0.out; have e1 := S1.out; have e2 := S2.out; have e3 := S3.out; have e4 := S4.out; have e5 := S5.out; have e6 := S6.out; have e7 := S7.out; simp only [Dat.cnt] at *; omega)
   have hb7 : y + 1 + 1 + 1 + 1 + 1 + 1 + 1 ≤ 1073741824 := by have := HZ.out; have := C7.out; omega
   rw [← hq7] at o7
   have O7 : Hid (OwnD wr K7 u7 ((intsD (psAt l k).b.r).mark (y + 1 + 1 + 1 + 1 + 1 + 1 + 1))) := o7
   have Q7 : Hid (y + 1 + 1 + 1 + 1 + 1 + 1 + 1 = z + (sumC (pastsD_f l) (k * 12 + 7) : Int)) := hq7
   clear hq7 o7
   go_wp2_with fail
   clear g7 g6 g5 g4 g3 g2 g1 g0
   refine (held_ints (F := K7) (l := (psAt l k).b.r) (y + 1 + 1 + 1 + 1 + 1 + 1 + 1) (by omega) (by omega) (by omega) O7.out).mono ?_
   rintro e w8 ⟨rfl, hb⟩
   have HR8 : Hid (OwnD w8 F (.slice (some ⟨g, 0, none⟩) l.length cap) ((pastsD l).mark z)) := HR.out.under hb
   have HB8 : Hid (Below w.heap.size w w8) := HB.out.trans (hb.mono HB.out.size)
   clear hb
   obtain ⟨y7, hy⟩ : ∃ y7 : Int, y7 = y + 1 + 1 + 1 + 1 + 1 + 1 + 1 + ((intsD (psAt l k).b.r).cnt : Int) := ⟨_, rfl⟩
   have HY8 : Hid (y7 = z + (sumC (pastsD_f l) (k * 12 + 8) : Int)) := by
    have h8 := S8.out
    have h9 := Q7.out
    show y7 = _
    omega
   have y70 : 0 ≤ y7 := by omega
   have y71 : y7 ≤ 1073741824 := by have h7 := HZ.out; have h8 := C8.out; have h9 := HY8.out; omega
   have y72 : ¬ (y7 < 0) := by omega
   rw [← hy]
   clear hy
   have g8 : w8.cell? ⟨g, k * 12 + 8, none⟩ = some (.int .i64 y7) := OwnD.marked_val (c := 12) (n := l.length) (f := (pastsD_f l)) HR8.out (j := k * 12 + 8) (by omega) E8.out (by
    show _ = Value.int .i64 (z + (sumC (pastsD_f l) (k * 12 + 8) : Int))
    rw [show y7 = z + (sumC (pastsD_f l) (k * 12 + 8) : Int) from by (have e := HY8.out; simp only [Dat.cnt] at *; omega)])
   have g9 : w8.cell? ⟨g, k * 12 + 9, none⟩ = some (.int .i64 (y7 + 1)) := OwnD.marked_val (c := 12) (n := l.length) (f := (pastsD_f l)) HR8.out (j := k * 12 + 9) (by omega) E9.out (by
    show _ = Value.int .i64 (z + (sumC (pastsD_f l) (k * 12 + 9) : Int))
    rw [show y7 + 1 = z + (sumC (pastsD_f l) (k * 12 + 9) : Int) from by (have e := HY8.out; have e9 := S9.out; simp only [Dat.cnt] at *; omega)])
   obtain ⟨u10, K10, g10, o10⟩ := OwnD.marked (c := 12) (n := l.length) (f := (pastsD_f l)) HR8.out (j := k * 12 + 10) (by omega)
   rw [E10.out] at o10
   have hq10 : y7 + 1 + 1 = z + (sumC (pastsD_f l) (k * 12 + 10) : Int) := by (have e := HY8.out; have e9 := S9.out; have e10 := S10.out; simp only [Dat.cnt] at *; omega)
   have hb10 : y7 + 1 + 1 ≤ 1073741824 := by have := HZ.out; have := C10.out; omega
   rw [← hq10] at o10
   have O10 : Hid (OwnD w8 K10 u10 ((evsD (psAt l k).s).mark (y7 + 1 + 1))) := o10
   have Q10 : Hid (y7 + 1 + 1 = z + (sumC (pastsD_f l) (k * 12 + 10) : Int)) := hq10
   clear hq10 o10
   go_wp2_with fail
   clear g10 g9 g8
   refine (held_evs (F := K10) (l := (psAt l k).s) (y7 + 1 + 1) (by omega) (by omega) (by omega) O10.out).mono ?_
   rintro e w11 ⟨rfl, hb⟩
   have HR11 : Hid (OwnD w11 F (.slice (some ⟨g, 0, none⟩) l.length cap) ((pastsD l).mark z)) := HR8.out.under hb
   have HB11 : Hid (Below w.heap.size w w11) := HB8.out.trans (hb.mono HB8.out.size)
   clear hb
   obtain ⟨y10, hy⟩ : ∃ y10 : Int, y10 = y7 + 1 + 1 + ((evsD (psAt l k).s).cnt : Int) := ⟨_, rfl⟩
   have HY11 : Hid (y10 = z + (sumC (pastsD_f l) (k * 12 + 11) : Int)) := by
    have h8 := S11.out
    have h9 := Q10.out
    show y10 = _
    omega
   have y100 : 0 ≤ y10 := by omega
   have y101 : y10 ≤ 1073741824 := by have h7 := HZ.out; have h8 := C11.out; have h9 := HY11.out; omega
   have y102 : ¬ (y10 < 0) := by omega
   rw [← hy]
   clear hy
   obtain ⟨u11, K11, g11, o11⟩ := OwnD.marked (c := 12) (n := l.length) (f := (pastsD_f l)) HR11.out (j := k * 12 + 11) (by omega)
   rw [E11.out] at o11
   have hq11 : y10 = z + (sumC (pastsD_f l) (k * 12 + 11) : Int) := by (have e := HY11.out; simp only [Dat.cnt] at *; omega)
   have hb11 : y10 ≤ 1073741824 := by have := HZ.out; have := C11.out; omega
   rw [← hq11] at o11
   have O11 : Hid (OwnD w11 K11 u11 ((emsD (psAt l k).x).mark (y10))) := o11
   have Q11 : Hid (y10 = z + (sumC (pastsD_f l) (k * 12 + 11) : Int)) := hq11
   clear hq11 o11
   go_wp2_with fail
   clear g11
   refine (held_ems (F := K11) (l := (psAt l k).x) (y10) (by omega) (by omega) (by omega) O11.out).mono ?_
   rintro e w12 ⟨rfl, hb⟩
   have HR12 : Hid (OwnD w12 F (.slice (some ⟨g, 0, none⟩) l.length cap) ((pastsD l).mark z)) := HR11.out.under hb
   have HB12 : Hid (Below w.heap.size w w12) := HB11.out.trans (hb.mono HB11.out.size)
   clear hb
   obtain ⟨y11, hy⟩ : ∃ y11 : Int, y11 = y10 + ((emsD (psAt l k).x).cnt : Int) := ⟨_, rfl⟩
   have HY12 : Hid (y11 = z + (sumC (pastsD_f l) (k * 12 + 12) : Int)) := by
    have h8 := S12.out
    have h9 := Q11.out
    show y11 = _
    omega
   have y110 : 0 ≤ y11 := by omega
   have y111 : y11 ≤ 1073741824 := by have h7 := HZ.out; have h8 := C12.out; have h9 := HY12.out; omega
   have y112 : ¬ (y11 < 0) := by omega
   rw [← hy]
   clear hy
   go_wp2
   go_roundw
   case rel =>
    refine ⟨k + 1, by omega, by go_num, ?_, HB12.out⟩
    rw [show y11 = z + (sumC (pastsD_f l) ((k + 1) * 12) : Int) from by rw [show (k + 1) * 12 = k * 12 + 12 from by omega]; (have e := HY12.out; simp only [Dat.cnt] at *; omega)]
   case measure => simp [intOf]; omega
  ·go_wp2
   go_ret
   obtain rfl : k = l.length := by omega
   exact ⟨rfl, HB.out⟩
end Go.Proofs.YthfhibnnkpbeiaaGreat
