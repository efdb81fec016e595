/- markPastS: marks, cell by cell. -/
import Derived.Test.YthfhibnnkpbeiaaGreatExactWorldNewG06
import Derived.Test.YthfhibnnkpbeiaaGreatExactWorldNewG07
namespace Go.Proofs.YthfhibnnkpbeiaaGreat
open Go.RowKit
theorem hidTPsE {p : Prop} (h : p) : Hid p := h
set_option maxRecDepth 100000 in
set_option maxHeartbeats 8000000 in
theorem mark_pasts {F : Nat → Prop} {x : Value} {l : List Ps} {w : World} (z : Int) (hn : (pastsD l).wt ≤ 1048577) (hz0 : 0 ≤ z) (hz1 : z + ((pastsD l).cnt : Int) ≤ 1073741824) (h : OwnD w F x (pastsD l)) :
  Calls Tryz.prog 89 #[x, .int .i64 z] w fun e w' => e = .returned (.int .i64 (z + ((pastsD l).cnt : Int))) ∧ OwnD w' F x ((pastsD l).mark z) ∧ Turns F w w' := by
 obtain ⟨a, cap, rfl, h1, h2, ha⟩ := OwnD.parts (c := 12) (n := l.length) h
 have HR0 := hidTPsE (OwnD.mk0 z h)
 have HS := hidTPsE hn
 have HZ := hidTPsE hz1
 have hl2 : l.length ≤ 1048577 := by rw [pastsD_wt] at hn; omega
 clear h hn hz1 h1 h2
 go_enter Tryz.func89, Tryz.ntmps89
 go_wp2
 go_loopw [5, 1] (fun i y wr => ∃ k : Nat, k ≤ l.length ∧ i = .int .i64 k ∧ y = .int .i64 (z + (sumC (pastsD_f l) (k * 12) : Int)) ∧ OwnD wr F (.slice a l.length cap) (.row 12 l.length (mkD (pastsD_f l) z (k * 12))) ∧ Turns F w wr) (fun i _ _ => l.length - (intOf i).toNat)
 case atStart => exact ⟨0, Nat.zero_le _, rfl, by simp [sumC, sumL], HR0.out, Turns.refl _ _⟩
 case round =>
  obtain ⟨k, hk, rfl, rfl, hR, hT⟩ := hrel
  have HR := hidTPsE hR
  have HT : Hid (Turns F w wr) := hT
  clear hR hT
  by_cases hlt : k < l.length
  ·obtain ⟨g, rfl, _, hFg⟩ := ha.resolve_left (by omega)
   have HF : Hid (F g) := hFg
   have hwt : (psAt l k).wt ≤ 1048577 := Nat.le_trans (Ps.wt_le hlt) HS.out
   unfold Ps.wt at hwt
   simp only [ems_wt, evs_wt, ints_wt] at hwt
   obtain ⟨m, hm⟩ : ∃ m, m = k * 12 := ⟨_, rfl⟩
   have E0 := hidTPsE (pastsD_at l k (r := 0) (by omega))
   have E1 := hidTPsE (pastsD_at l k (r := 1) (by omega))
   have E2 := hidTPsE (pastsD_at l k (r := 2) (by omega))
   have E3 := hidTPsE (pastsD_at l k (r := 3) (by omega))
   have E4 := hidTPsE (pastsD_at l k (r := 4) (by omega))
   have E5 := hidTPsE (pastsD_at l k (r := 5) (by omega))
   have E6 := hidTPsE (pastsD_at l k (r := 6) (by omega))
   have E7 := hidTPsE (pastsD_at l k (r := 7) (by omega))
   have E8 := hidTPsE (pastsD_at l k (r := 8) (by omega))
   have E9 := hidTPsE (pastsD_at l k (r := 9) (by omega))
   have E10 := hidTPsE (pastsD_at l k (r := 10) (by omega))
   have E11 := hidTPsE (pastsD_at l k (r := 11) (by omega))
   have C0 : Hid (sumC (pastsD_f l) (k * 12) ≤ (pastsD l).cnt) := sumC_le (by omega)
   have S1 : Hid (sumC (pastsD_f l) (k * 12 + 1) = sumC (pastsD_f l) (k * 12) + (Dat.val (.int .i64 (psAt l k).e.t)).cnt) := by
    have e := sumC_succ (pastsD_f l) (k * 12 + 0)
    rw [E0.out] at e
    exact e
   have C1 : Hid (sumC (pastsD_f l) (k * 12 + 1) ≤ (pastsD l).cnt) := sumC_le (by omega)
   have S2 : Hid (sumC (pastsD_f l) (k * 12 + 2) = sumC (pastsD_f l) (k * 12 + 1) + (Dat.val (.int .i64 (psAt l k).e.s)).cnt) := by
    have e := sumC_succ (pastsD_f l) (k * 12 + 1)
    rw [E1.out] at e
    exact e
   have C2 : Hid (sumC (pastsD_f l) (k * 12 + 2) ≤ (pastsD l).cnt) := sumC_le (by omega)
   have S3 : Hid (sumC (pastsD_f l) (k * 12 + 3) = sumC (pastsD_f l) (k * 12 + 2) + (Dat.val (.int .i64 (psAt l k).e.q)).cnt) := by
    have e := sumC_succ (pastsD_f l) (k * 12 + 2)
    rw [E2.out] at e
    exact e
   have C3 : Hid (sumC (pastsD_f l) (k * 12 + 3) ≤ (pastsD l).cnt) := sumC_le (by omega)
   have S4 : Hid (sumC (pastsD_f l) (k * 12 + 4) = sumC (pastsD_f l) (k * 12 + 3) + (Dat.val (.int .i64 (psAt l k).e.d)).cnt) := by
    have e := sumC_succ (pastsD_f l) (k * 12 + 3)
    rw [E3.out] at e
    exact e
   have C4 : Hid (sumC (pastsD_f l) (k * 12 + 4) ≤ (pastsD l).cnt) := sumC_le (by omega)
   have S5 : Hid (sumC (pastsD_f l) (k * 12 + 5) = sumC (pastsD_f l) (k * 12 + 4) + (Dat.val (.int .i64 (psAt l k).e.k)).cnt) := by
    have e := sumC_succ (pastsD_f l) (k * 12 + 4)
    rw [E4.out] at e
    exact e
   have C5 : Hid (sumC (pastsD_f l) (k * 12 + 5) ≤ (pastsD l).cnt) := sumC_le (by omega)
   have S6 : Hid (sumC (pastsD_f l) (k * 12 + 6) = sumC (pastsD_f l) (k * 12 + 5) + (Dat.val (.int .i64 (psAt l k).e.v)).cnt) := by
    have e := sumC_succ (pastsD_f l) (k * 12 + 5)
    rw [E5.out] at e
    exact e
   have C6 : Hid (sumC (pastsD_f l) (k * 12 + 6) ≤ (pastsD l).cnt) := sumC_le (by omega)
   have S7 : Hid (sumC (pastsD_f l) (k * 12 + 7) = sumC (pastsD_f l) (k * 12 + 6) + (Dat.val (.int .i64 (psAt l k).e.g)).cnt) := by
    have e := sumC_succ (pastsD_f l) (k * 12 + 6)
    rw [E6.out] at e
    exact e
   have C7 : Hid (sumC (pastsD_f l) (k * 12 + 7) ≤ (pastsD l).cnt) := sumC_le (by omega)
   have S8 : Hid (sumC (pastsD_f l) (k * 12 + 8) = sumC (pastsD_f l) (k * 12 + 7) + (intsD (psAt l k).b.r).cnt) := by
    have e := sumC_succ (pastsD_f l) (k * 12 + 7)
    rw [E7.out] at e
    exact e
   have C8 : Hid (sumC (pastsD_f l) (k * 12 + 8) ≤ (pastsD l).cnt) := sumC_le (by omega)
   have S9 : Hid (sumC (pastsD_f l) (k * 12 + 9) = sumC (pastsD_f l) (k * 12 + 8) + (Dat.val (.int .i64 (psAt l k).b.q)).cnt) := by
    have e := sumC_succ (pastsD_f l) (k * 12 + 8)
    rw [E8.out] at e
    exact e
   have C9 : Hid (sumC (pastsD_f l) (k * 12 + 9) ≤ (pastsD l).cnt) := sumC_le (by omega)
   have S10 : Hid (sumC (pastsD_f l) (k * 12 + 10) = sumC (pastsD_f l) (k * 12 + 9) + (Dat.val (.int .i64 (psAt l k).b.d)).cnt) := by
    have e := sumC_succ (pastsD_f l) (k * 12 + 9)
    rw [E9.out] at e
    exact e
   have C10 : Hid (sumC (pastsD_f l) (k * 12 + 10) ≤ (pastsD l).cnt) := sumC_le (by omega)
   have S11 : Hid (sumC (pastsD_f l) (k * 12 + 11) = sumC (pastsD_f l) (k * 12 + 10) + (evsD (psAt l k).s).cnt) := by
    have e := sumC_succ (pastsD_f l) (k * 12 + 10)
    rw [E10.out] at e
    exact e
   have C11 : Hid (sumC (pastsD_f l) (k * 12 + 11) ≤ (pastsD l).cnt) := sumC_le (by omega)
   have S12 : Hid (sumC (pastsD_f l) (k * 12 + 12) = sumC (pastsD_f l) (k * 12 + 11) + (emsD (psAt l k).x).cnt) := by
    have e := sumC_succ (pastsD_f l) (k * 12 + 11)
    rw [E11.out] at e
    exact e
   have C12 : Hid (sumC (pastsD_f l) (k * 12 + 12) ≤ (pastsD l).cnt) := sumC_le (by omega)
   obtain ⟨y, hy⟩ : ∃ y : Int, y = z + (sumC (pastsD_f l) (k * 12) : Int) := ⟨_, rfl⟩
   have HY0 := hidTPsE hy
   have y0 : 0 ≤ y := by omega
   rw [← hy]
   clear hy hm
   obtain ⟨x0, _, g0, z0, _⟩ := HR.out.step (j := k * 12) (by omega)
   obtain ⟨Y1, hY1⟩ : ∃ Y1, wr.setCell ⟨g, k * 12, none⟩ (.int .i64 y) = Y1 := ⟨_, rfl⟩
   have HR1 : Hid (OwnD Y1 F (.slice (some ⟨g, 0, none⟩) l.length cap) (.row 12 l.length (mkD (pastsD_f l) z (k * 12 + 1)))) := hY1 ▸ HR.out.mk_val (m := k * 12) (by omega) E0.out (by
    show _ = Value.int .i64 (z + (sumC (pastsD_f l) (k * 12) : Int))
    rw [show y = z + (sumC (pastsD_f l) (k * 12) : Int) from by (have e := HY0.out; simp only [Dat.cnt] at *; omega)])
   have HT1 : Hid (Turns F w Y1) := HT.out.trans (hY1 ▸ (put1_turns _ _ _ _).mono (fun b e => by subst e; exact HF.out))
   obtain ⟨x1, _, g1, z1, _⟩ := HR1.out.step (j := k * 12 + 1) (by omega)
   obtain ⟨Y2, hY2⟩ : ∃ Y2, Y1.setCell ⟨g, k * 12 + 1, none⟩ (.int .i64 (y + 1)) = Y2 := ⟨_, rfl⟩
   have HR2 : Hid (OwnD Y2 F (.slice (some ⟨g, 0, none⟩) l.length cap) (.row 12 l.length (mkD (pastsD_f l) z (k * 12 + 2)))) := hY2 ▸ HR1.out.mk_val (m := k * 12 + 1) (by omega) E1.out (by
    show _ = Value.int .i64 (z + (sumC (pastsD_f l) (k * 12 + 1) : Int))
    rw [show y + 1 = z + (sumC (pastsD_f l) (k * 12 + 1) : Int) from by (have e := HY0.out; have e1 := S1.out; simp only [Dat.cnt] at *; omega)])
   have HT2 : Hid (Turns F w Y2) := HT1.out.trans (hY2 ▸ (put1_turns _ _ _ _).mono (fun b e => by subst e; exact HF.out))
   obtain ⟨x2, _, g2, z2, _⟩ := HR2.out.step (j := k * 12 + 2) (by omega)
   obtain ⟨Y3, hY3⟩ : ∃ Y3, Y2.setCell ⟨g, k * 12 + 2, none⟩ (.int .i64 (y + 1 + 1)) = Y3 := ⟨_, rfl⟩
   have HR3 : Hid (OwnD Y3 F (.slice (some ⟨g, 0, none⟩) l.length cap) (.row 12 l.length (mkD (pastsD_f l) z (k * 12 + 3)))) := hY3 ▸ HR2.out.mk_val (m := k * 12 + 2) (by omega) E2.out (by
    show _ = Value.int .i64 (z + (sumC (pastsD_f l) (k * 12 + 2) : Int))
    rw [show y + 1 + 1 = z + (sumC (pastsD_f l) (k * 12 + 2) : Int) from by (have e := HY0.out; have e1 := S1.out; have e2 := S2.out; simp only [Dat.cnt] at *; omega)])
   have HT3 : Hid (Turns F w Y3) := HT2.out.trans (hY3 ▸ (put1_turns _ _ _ _).mono (fun b e => by subst e; exact HF.out))
   obtain ⟨x3, _, g3, z3, _⟩ := HR3.out.step (j := k * 12 + 3) (by omega)
   obtain ⟨Y4, hY4⟩ : ∃ Y4, Y3.setCell ⟨g, k * 12 + 3, none⟩ (.int .i64 (y + 1 + 1 + 1)) = Y4 := ⟨_, rfl⟩
   have HR4 : Hid (OwnD Y4 F (.slice (some ⟨g, 0, none⟩) l.length cap) (.row 12 l.length (mkD (pastsD_f l) z (k * 12 + 4)))) := hY4 ▸ HR3.out.mk_val (m := k * 12 + 3) (by omega) E3.out (by
    show _ = Value.int .i64 (z + (sumC (pastsD_f l) (k * 12 + 3) : Int))
    rw [show y + 1 + 1 + 1 = z + (sumC (pastsD_f l) (k * 12 + 3) : Int) from by (have e := HY0.out; have e1 := S1.out; have e2 := S2.out; have e3 := S3.out; simp only [Dat.cnt] at *; omega)])
   have HT4 : Hid (Turns F w Y4) := HT3.out.trans (hY4 ▸ (put1_turns _ _ _ _).mono (fun b e => by subst e; exact HF.out))
   obtain ⟨x4, _, g4, z4, _⟩ := HR4.out.step (j := k * 12 + 4) (by omega)
   obtain ⟨Y5, hY5⟩ : ∃ Y5, Y4.setCell ⟨g, k * 12 + 4, none⟩ (.int .i64 (y + 1 + 1 + 1 + 1)) = Y5 := ⟨_, rfl⟩
   have HR5 : Hid (OwnD Y5 F (.slice (some ⟨g, 0, none⟩) l.length cap) (.row 12 l.length (mkD (pastsD_f l) z (k * 12 + 5)))) := hY5 ▸ HR4.out.mk_val (m := k * 12 + 4) (by omega) E4.out (by
    show _ = Value.int .i64 (z + (sumC (pastsD_f l) (k * 12 + 4) : Int))
    rw [show y + 1 + 1 + 1 + 1 = z + (sumC (pastsD_f l) (k * 12 + 4) : Int) from by (have e := HY0.out; have e1 := S1.out; have e2 := S2.out; have e3 := S3.out; have e4 := S4.out; simp only [Dat.cnt] at *; omega)])
   have HT5 : Hid (Turns F w Y5) := HT4.out.trans (hY5 ▸ (put1_turns _ _ _ _).mono (fun b e => by subst e; exact HF.out))
   obtain ⟨x5, _, g5, z5, _⟩ := HR5.out.step (j := k * 12 + 5) (by omega)
   obtain ⟨Y6, hY6⟩ : ∃ Y6, Y5.setCell ⟨g, k * 12 + 5, none⟩ (.int .i64 (y + 1 + 1 + 1 + 1 + 1)) = Y6 := ⟨_, rfl⟩
   have HR6 : Hid (OwnD Y6 F (.slice (some ⟨g, 0, none⟩) l.length cap) (.row 12 l.length (mkD (pastsD_f l) z (k * 12 + 6)))) := hY6 ▸ HR5.out.mk_val (m := k * 12 + 5) (by omega) E5.out (by
    show _ = Value.int .i64 (z + (sumC (pastsD_f l) (k * 12 + 5) : Int))
    rw [show y + 1 + 1 + 1 + 1 + 1 = z + (sumC (pastsD_f l) (k * 12 + 5) : Int) from by (have e := HY0.out; have e1 := S1.out; have e2 := S2.out; have e3 := S3.out; have e4 := S4.out; have e5 := S5.out; simp only [Dat.cnt] at *; omega)])
   have HT6 : Hid (Turns F w Y6) := HT5.out.trans (hY6 ▸ (put1_turns _ _ _ _).mono (fun b e => by subst e; exact HF.out))
   obtain ⟨x6, _, g6, z6, _⟩ := HR6.out.step (j := k * 12 + 6) (by omega)
   obtain ⟨Y7, hY7⟩ : ∃ Y7, Y6.setCell ⟨g, k * 12 + 6, none⟩ (.int .i64 (y + 1 + 1 + 1 + 1 + 1 + 1)) = Y7 := ⟨_, rfl⟩
   have HR7 : Hid (OwnD Y7 F (.slice (some ⟨g, 0, none⟩) l.length cap) (.row 12 l.length (mkD (pastsD_f l) z (k * 12 + 7)))) := hY7 ▸ HR6.out.mk_val (m := k * 12 + 6) (by omega) E6.out (by
    show _ = Value.int .i64 (z + (sumC (pastsD_f l) (k * 12 + 6) : Int))
    rw [show y + 1 + 1 + 1 + 1 + 1 + 1 = z + (sumC (pastsD_f l) (k * 12 + 6) : Int) from by (have e := HY0.out; have e1 := S1.out; have e2 := S2.out; have e3 := S3.out; have e4 := S4.out; have e5 := S5.out; have e6 := S6.out; simp only [Dat.cnt] at *; omega)])
   have HT7 : Hid (Turns F w Y7) := HT6.out.trans (hY7 ▸ (put1_turns _ _ _ _).mono (fun b e => by subst e; exact HF.out))
   obtain ⟨u7, K7, g7, o7, f7, b7⟩ := HR7.out.mk_row (m := k * 12 + 7) (by omega)
   rw [E7.out] at o7 b7
   have O7 := hidTPsE o7
   have B7 := hidTPsE b7
   have F7 : Hid (∀ b, K7 b → F b) := f7
   clear o7 b7 f7
   have hq7 : y + 1 + 1 + 1 + 1 + 1 + 1 + 1 = z + (sumC (pastsD_f l) (k * 12 + 7) : Int) := by (have e := HY0.out; have e1 := S1.out; have e2 := S2.out; have e3 := S3.out; have e4 := S4.out; have e5 := S5.out; have e6 := S6.out; have e7 := S7.out; simp only [Dat.cnt] at *; omega)
   have hb7 : y + 1 + 1 + 1 + 1 + 1 + 1 + 1 ≤ 1073741824 := by have := HZ.out; have := C7.out; omega
   have Q7 := hidTPsE hq7
   clear hq7
   go_wp2_with fail
   clear g7 hY7 z6 g6 hY6 z5 g5 hY5 z4 g4 hY4 z3 g3 hY3 z2 g2 hY2 z1 g1 hY1 z0 g0
   refine (mark_ints (F := K7) (l := (psAt l k).b.r) (y + 1 + 1 + 1 + 1 + 1 + 1 + 1) (by omega) (by omega) (by omega) O7.out).mono ?_
   rintro e w8 ⟨rfl, hr, ht⟩
   rw [Q7.out] at hr
   have HR8 := hidTPsE (B7.out _ hr ht)
   have HT8 : Hid (Turns F w w8) := HT7.out.trans (ht.mono F7.out)
   clear hr ht
   obtain ⟨y7, hy⟩ : ∃ y7 : Int, y7 = y + 1 + 1 + 1 + 1 + 1 + 1 + 1 + ((intsD (psAt l k).b.r).cnt : Int) := ⟨_, rfl⟩
   have HY8 : Hid (y7 = z + (sumC (pastsD_f l) (k * 12 + 8) : Int)) := by
    have h8 := S8.out
    have h9 := Q7.out
    show y7 = _
    omega
   have y70 : 0 ≤ y7 := by omega
   have y71 : y7 ≤ 1073741824 := by have h7 := HZ.out; have h8 := C8.out; have h9 := HY8.out; omega
   rw [← hy]
   clear hy
   obtain ⟨x8, _, g8, z8, _⟩ := HR8.out.step (j := k * 12 + 8) (by omega)
   obtain ⟨Y9, hY9⟩ : ∃ Y9, w8.setCell ⟨g, k * 12 + 8, none⟩ (.int .i64 y7) = Y9 := ⟨_, rfl⟩
   have HR9 : Hid (OwnD Y9 F (.slice (some ⟨g, 0, none⟩) l.length cap) (.row 12 l.length (mkD (pastsD_f l) z (k * 12 + 9)))) := hY9 ▸ HR8.out.mk_val (m := k * 12 + 8) (by omega) E8.out (by
    show _ = Value.int .i64 (z + (sumC (pastsD_f l) (k * 12 + 8) : Int))
    rw [show y7 = z + (sumC (pastsD_f l) (k * 12 + 8) : Int) from by (have e := HY8.out; simp only [Dat.cnt] at *; omega)])
   have HT9 : Hid (Turns F w Y9) := HT8.out.trans (hY9 ▸ (put1_turns _ _ _ _).mono (fun b e => by subst e; exact HF.out))
   obtain ⟨x9, _, g9, z9, _⟩ := HR9.out.step (j := k * 12 + 9) (by omega)
   obtain ⟨Y10, hY10⟩ : ∃ Y10, Y9.setCell ⟨g, k * 12 + 9, none⟩ (.int .i64 (y7 + 1)) = Y10 := ⟨_, rfl⟩
   have HR10 : Hid (OwnD Y10 F (.slice (some ⟨g, 0, none⟩) l.length cap) (.row 12 l.length (mkD (pastsD_f l) z (k * 12 + 10)))) := hY10 ▸ HR9.out.mk_val (m := k * 12 + 9) (by omega) E9.out (by
    show _ = Value.int .i64 (z + (sumC (pastsD_f l) (k * 12 + 9) : Int))
    rw [show y7 + 1 = z + (sumC (pastsD_f l) (k * 12 + 9) : Int) from by (have e := HY8.out; have e9 := S9.out; simp only [Dat.cnt] at *; omega)])
   have HT10 : Hid (Turns F w Y10) := HT9.out.trans (hY10 ▸ (put1_turns _ _ _ _).mono (fun b e => by subst e; exact HF.out))
   obtain ⟨u10, K10, g10, o10, f10, b10⟩ := HR10.out.mk_row (m := k * 12 + 10) (by omega)
   rw [E10.out] at o10 b10
   have O10 := hidTPsE o10
   have B10 := hidTPsE b10
   have F10 : Hid (∀ b, K10 b → F b) := f10
   clear o10 b10 f10
   have hq10 : y7 + 1 + 1 = z + (sumC (pastsD_f l) (k * 12 + 10) : Int) := by (have e := HY8.out; have e9 := S9.out; have e10 := S10.out; simp only [Dat.cnt] at *; omega)
   have hb10 : y7 + 1 + 1 ≤ 1073741824 := by have := HZ.out; have := C10.out; omega
   have Q10 := hidTPsE hq10
   clear hq10
   go_wp2_with fail
   clear g10 hY10 z9 g9 hY9 z8 g8
   refine (mark_evs (F := K10) (l := (psAt l k).s) (y7 + 1 + 1) (by omega) (by omega) (by omega) O10.out).mono ?_
   rintro e w11 ⟨rfl, hr, ht⟩
   rw [Q10.out] at hr
   have HR11 := hidTPsE (B10.out _ hr ht)
   have HT11 : Hid (Turns F w w11) := HT10.out.trans (ht.mono F10.out)
   clear hr ht
   obtain ⟨y10, hy⟩ : ∃ y10 : Int, y10 = y7 + 1 + 1 + ((evsD (psAt l k).s).cnt : Int) := ⟨_, rfl⟩
   have HY11 : Hid (y10 = z + (sumC (pastsD_f l) (k * 12 + 11) : Int)) := by
    have h8 := S11.out
    have h9 := Q10.out
    show y10 = _
    omega
   have y100 : 0 ≤ y10 := by omega
   have y101 : y10 ≤ 1073741824 := by have h7 := HZ.out; have h8 := C11.out; have h9 := HY11.out; omega
   rw [← hy]
   clear hy
   obtain ⟨u11, K11, g11, o11, f11, b11⟩ := HR11.out.mk_row (m := k * 12 + 11) (by omega)
   rw [E11.out] at o11 b11
   have O11 := hidTPsE o11
   have B11 := hidTPsE b11
   have F11 : Hid (∀ b, K11 b → F b) := f11
   clear o11 b11 f11
   have hq11 : y10 = z + (sumC (pastsD_f l) (k * 12 + 11) : Int) := by (have e := HY11.out; simp only [Dat.cnt] at *; omega)
   have hb11 : y10 ≤ 1073741824 := by have := HZ.out; have := C11.out; omega
   have Q11 := hidTPsE hq11
   clear hq11
   go_wp2_with fail
   clear g11
   refine (mark_ems (F := K11) (l := (psAt l k).x) (y10) (by omega) (by omega) (by omega) O11.out).mono ?_
   rintro e w12 ⟨rfl, hr, ht⟩
   rw [Q11.out] at hr
   have HR12 := hidTPsE (B11.out _ hr ht)
   have HT12 : Hid (Turns F w w12) := HT11.out.trans (ht.mono F11.out)
   clear hr ht
   obtain ⟨y11, hy⟩ : ∃ y11 : Int, y11 = y10 + ((emsD (psAt l k).x).cnt : Int) := ⟨_, rfl⟩
   have HY12 : Hid (y11 = z + (sumC (pastsD_f l) (k * 12 + 12) : Int)) := by
    have h8 := S12.out
    have h9 := Q11.out
    show y11 = _
    omega
   have y110 : 0 ≤ y11 := by omega
   have y111 : y11 ≤ 1073741824 := by have h7 := HZ.out; have h8 := C12.out; have h9 := HY12.out; omega
   rw [← hy]
   clear hy
   go_wp2
   go_roundw
   case rel =>
    refine ⟨k + 1, by omega, by go_num, ?_, ?_, HT12.out⟩
    ·rw [show y11 = z + (sumC (pastsD_f l) ((k + 1) * 12) : Int) from by rw [show (k + 1) * 12 = k * 12 + 12 from by omega]; (have e := HY12.out; simp only [Dat.cnt] at *; omega)]
    ·rw [show (k + 1) * 12 = k * 12 + 12 from by omega]
     exact HR12.out
   case measure => simp [intOf]; omega
  ·go_wp2
   go_ret
   obtain rfl : k = l.length := by omega
   exact ⟨rfl, HR.out.mkAll, HT.out⟩
end Go.Proofs.YthfhibnnkpbeiaaGreat
