/- TPpE, TPpF -/
import Derived.Test.YthfhibnnkpbeiaaGreatExactWorldNewG06
import Derived.Test.YthfhibnnkpbeiaaGreatExactWorldNewLTPsE
import Derived.Test.YthfhibnnkpbeiaaGreatExactWorldNewG07
import Derived.Test.YthfhibnnkpbeiaaGreatExactWorldNewG09
/- markPartS: marks, cell by cell. -/
namespace Go.Proofs.YthfhibnnkpbeiaaGreat
open Go.RowKit
theorem hidTPpE {p : Prop} (h : p) : Hid p := h
set_option maxRecDepth 100000 in
set_option maxHeartbeats 8000000 in
theorem mark_parts {F : Nat → Prop} {x : Value} {l : List Pa} {w : World} (z : Int) (hn : (partsD l).wt ≤ 1048577) (hz0 : 0 ≤ z) (hz1 : z + ((partsD l).cnt : Int) ≤ 1073741824) (h : OwnD w F x (partsD l)) :
  Calls Tryz.prog 43 #[x, .int .i64 z] w fun e w' => e = .returned (.int .i64 (z + ((partsD l).cnt : Int))) ∧ OwnD w' F x ((partsD l).mark z) ∧ Turns F w w' := by
 obtain ⟨a, cap, rfl, h1, h2, ha⟩ := OwnD.parts (c := 7) (n := l.length) h
 have HR0 := hidTPpE (OwnD.mk0 z h)
 have HS := hidTPpE hn
 have HZ := hidTPpE hz1
 have hl2 : l.length ≤ 1048577 := by rw [partsD_wt] at hn; omega
 clear h hn hz1 h1 h2
 go_enter Tryz.func43, Tryz.ntmps43
 go_wp2
 go_loopw [5, 1] (fun i y wr => ∃ k : Nat, k ≤ l.length ∧ i = .int .i64 k ∧ y = .int .i64 (z + (sumC (partsD_f l) (k * 7) : Int)) ∧ OwnD wr F (.slice a l.length cap) (.row 7 l.length (mkD (partsD_f l) z (k * 7))) ∧ Turns F w wr) (fun i _ _ => l.length - (intOf i).toNat)
 case atStart => exact ⟨0, Nat.zero_le _, rfl, by simp [sumC, sumL], HR0.out, Turns.refl _ _⟩
 case round =>
  obtain ⟨k, hk, rfl, rfl, hR, hT⟩ := hrel
  have HR := hidTPpE hR
  have HT : Hid (Turns F w wr) := hT
  clear hR hT
  by_cases hlt : k < l.length
  ·obtain ⟨g, rfl, _, hFg⟩ := ha.resolve_left (by omega)
   have HF : Hid (F g) := hFg
   have hwt : (paAt l k).wt ≤ 1048577 := Nat.le_trans (Pa.wt_le hlt) HS.out
   unfold Pa.wt at hwt
   simp only [evs_wt, ints_wt] at hwt
   obtain ⟨m, hm⟩ : ∃ m, m = k * 7 := ⟨_, rfl⟩
   have E0 := hidTPpE (partsD_at l k (r := 0) (by omega))
   have E1 := hidTPpE (partsD_at l k (r := 1) (by omega))
   have E2 := hidTPpE (partsD_at l k (r := 2) (by omega))
   have E3 := hidTPpE (partsD_at l k (r := 3) (by omega))
   have E4 := hidTPpE (partsD_at l k (r := 4) (by omega))
   have E5 := hidTPpE (partsD_at l k (r := 5) (by omega))
   have E6 := hidTPpE (partsD_at l k (r := 6) (by omega))
   have C0 : Hid (sumC (partsD_f l) (k * 7) ≤ (partsD l).cnt) := sumC_le (by omega)
   have S1 : Hid (sumC (partsD_f l) (k * 7 + 1) = sumC (partsD_f l) (k * 7) + (Dat.val (.int .i64 (paAt l k).n)).cnt) := by
    have e := sumC_succ (partsD_f l) (k * 7 + 0)
    rw [E0.out] at e
    exact e
   have C1 : Hid (sumC (partsD_f l) (k * 7 + 1) ≤ (partsD l).cnt) := sumC_le (by omega)
   have S2 : Hid (sumC (partsD_f l) (k * 7 + 2) = sumC (partsD_f l) (k * 7 + 1) + (intsD (paAt l k).st.r).cnt) := by
    have e := sumC_succ (partsD_f l) (k * 7 + 1)
    rw [E1.out] at e
    exact e
   have C2 : Hid (sumC (partsD_f l) (k * 7 + 2) ≤ (partsD l).cnt) := sumC_le (by omega)
   have S3 : Hid (sumC (partsD_f l) (k * 7 + 3) = sumC (partsD_f l) (k * 7 + 2) + (Dat.val (.int .i64 (paAt l k).st.q)).cnt) := by
    have e := sumC_succ (partsD_f l) (k * 7 + 2)
    rw [E2.out] at e
    exact e
   have C3 : Hid (sumC (partsD_f l) (k * 7 + 3) ≤ (partsD l).cnt) := sumC_le (by omega)
   have S4 : Hid (sumC (partsD_f l) (k * 7 + 4) = sumC (partsD_f l) (k * 7 + 3) + (Dat.val (.int .i64 (paAt l k).st.d)).cnt) := by
    have e := sumC_succ (partsD_f l) (k * 7 + 3)
    rw [E3.out] at e
    exact e
   have C4 : Hid (sumC (partsD_f l) (k * 7 + 4) ≤ (partsD l).cnt) := sumC_le (by omega)
   have S5 : Hid (sumC (partsD_f l) (k * 7 + 5) = sumC (partsD_f l) (k * 7 + 4) + (pastsD (paAt l k).p).cnt) := by
    have e := sumC_succ (partsD_f l) (k * 7 + 4)
    rw [E4.out] at e
    exact e
   have C5 : Hid (sumC (partsD_f l) (k * 7 + 5) ≤ (partsD l).cnt) := sumC_le (by omega)
   have S6 : Hid (sumC (partsD_f l) (k * 7 + 6) = sumC (partsD_f l) (k * 7 + 5) + (evsD (paAt l k).t).cnt) := by
    have e := sumC_succ (partsD_f l) (k * 7 + 5)
    rw [E5.out] at e
    exact e
   have C6 : Hid (sumC (partsD_f l) (k * 7 + 6) ≤ (partsD l).cnt) := sumC_le (by omega)
   have S7 : Hid (sumC (partsD_f l) (k * 7 + 7) = sumC (partsD_f l) (k * 7 + 6) + (intsD (paAt l k).a).cnt) := by
    have e := sumC_succ (partsD_f l) (k * 7 + 6)
    rw [E6.out] at e
    exact e
   have C7 : Hid (sumC (partsD_f l) (k * 7 + 7) ≤ (partsD l).cnt) := sumC_le (by omega)
   obtain ⟨y, hy⟩ : ∃ y : Int, y = z + (sumC (partsD_f l) (k * 7) : Int) := ⟨_, rfl⟩
   have HY0 := hidTPpE hy
   have y0 : 0 ≤ y := by omega
   rw [← hy]
   clear hy hm
   obtain ⟨x0, _, g0, z0, _⟩ := HR.out.step (j := k * 7) (by omega)
   obtain ⟨Y1, hY1⟩ : ∃ Y1, wr.setCell ⟨g, k * 7, none⟩ (.int .i64 y) = Y1 := ⟨_, rfl⟩
   have HR1 : Hid (OwnD Y1 F (.slice (some ⟨g, 0, none⟩) l.length cap) (.row 7 l.length (mkD (partsD_f l) z (k * 7 + 1)))) := hY1 ▸ HR.out.mk_val (m := k * 7) (by omega) E0.out (by
    show _ = Value.int .i64 (z + (sumC (partsD_f l) (k * 7) : Int))
    rw [show y = z + (sumC (partsD_f l) (k * 7) : Int) from by (have e := HY0.out; simp only [Dat.cnt] at *; omega)])
   have HT1 : Hid (Turns F w Y1) := HT.out.trans (hY1 ▸ (put1_turns _ _ _ _).mono (fun b e => by subst e; exact HF.out))
   obtain ⟨u1, K1, g1, o1, f1, b1⟩ := HR1.out.mk_row (m := k * 7 + 1) (by omega)
   rw [E1.out] at o1 b1
   have O1 := hidTPpE o1
   have B1 := hidTPpE b1
   have F1 : Hid (∀ b, K1 b → F b) := f1
   clear o1 b1 f1
   have hq1 : y + 1 = z + (sumC (partsD_f l) (k * 7 + 1) : Int) := by (have e := HY0.out; have e1 := S1.out; simp only [Dat.cnt] at *; omega)
   have hb1 : y + 1 ≤ 1073741824 := by have := HZ.out; have := C1.out; omega
   have Q1 := hidTPpE hq1
   clear hq1
   go_wp2_with fail
   clear g1 hY1 z0 g0
   refine (mark_ints (F := K1) (l := (paAt l k).st.r) (y + 1) (by omega) (by omega) (by omega) O1.out).mono ?_
   rintro e w2 ⟨rfl, hr, ht⟩
   rw [Q1.out] at hr
   have HR2 := hidTPpE (B1.out _ hr ht)
   have HT2 : Hid (Turns F w w2) := HT1.out.trans (ht.mono F1.out)
   clear hr ht
   obtain ⟨y1, hy⟩ : ∃ y1 : Int, y1 = y + 1 + ((intsD (paAt l k).st.r).cnt : Int) := ⟨_, rfl⟩
   have HY2 : Hid (y1 = z + (sumC (partsD_f l) (k * 7 + 2) : Int)) := by
    have h8 := S2.out
    have h9 := Q1.out
    show y1 = _
    omega
   have y10 : 0 ≤ y1 := by omega
   have y11 : y1 ≤ 1073741824 := by have h7 := HZ.out; have h8 := C2.out; have h9 := HY2.out; omega
   rw [← hy]
   clear hy
   obtain ⟨x2, _, g2, z2, _⟩ := HR2.out.step (j := k * 7 + 2) (by omega)
   obtain ⟨Y3, hY3⟩ : ∃ Y3, w2.setCell ⟨g, k * 7 + 2, none⟩ (.int .i64 y1) = Y3 := ⟨_, rfl⟩
   have HR3 : Hid (OwnD Y3 F (.slice (some ⟨g, 0, none⟩) l.length cap) (.row 7 l.length (mkD (partsD_f l) z (k * 7 + 3)))) := hY3 ▸ HR2.out.mk_val (m := k * 7 + 2) (by omega) E2.out (by
    show _ = Value.int .i64 (z + (sumC (partsD_f l) (k * 7 + 2) : Int))
    rw [show y1 = z + (sumC (partsD_f l) (k * 7 + 2) : Int) from by (have e := HY2.out; simp only [Dat.cnt] at *; omega)])
   have HT3 : Hid (Turns F w Y3) := HT2.out.trans (hY3 ▸ (put1_turns _ _ _ _).mono (fun b e => by subst e; exact HF.out))
   obtain ⟨x3, _, g3, z3, _⟩ := HR3.out.step (j := k * 7 + 3) (by omega)
   obtain ⟨Y4, hY4⟩ : ∃ Y4, Y3.setCell ⟨g, k * 7 + 3, none⟩ (.int .i64 (y1 + 1)) = Y4 := ⟨_, rfl⟩
   have HR4 : Hid (OwnD Y4 F (.slice (some ⟨g, 0, none⟩) l.length cap) (.row 7 l.length (mkD (partsD_f l) z (k * 7 + 4)))) := hY4 ▸ HR3.out.mk_val (m := k * 7 + 3) (by omega) E3.out (by
    show _ = Value.int .i64 (z + (sumC (partsD_f l) (k * 7 + 3) : Int))
    rw [show y1 + 1 = z + (sumC (partsD_f l) (k * 7 + 3) : Int) from by (have e := HY2.out; have e3 := S3.out; simp only [Dat.cnt] at *; omega)])
   have HT4 : Hid (Turns F w Y4) := HT3.out.trans (hY4 ▸ (put1_turns _ _ _ _).mono (fun b e => by subst e; exact HF.out))
   obtain ⟨u4, K4, g4, o4, f4, b4⟩ := HR4.out.mk_row (m := k * 7 + 4) (by omega)
   rw [E4.out] at o4 b4
   have O4 := hidTPpE o4
   have B4 := hidTPpE b4
   have F4 : Hid (∀ b, K4 b → F b) := f4
   clear o4 b4 f4
   have hq4 : y1 + 1 + 1 = z + (sumC (partsD_f l) (k * 7 + 4) : Int) := by (have e := HY2.out; have e3 := S3.out; have e4 := S4.out; simp only [Dat.cnt] at *; omega)
   have hb4 : y1 + 1 + 1 ≤ 1073741824 := by have := HZ.out; have := C4.out; omega
   have Q4 := hidTPpE hq4
   clear hq4
   go_wp2_with fail
   clear g4 hY4 z3 g3 hY3 z2 g2
   refine (mark_pasts (F := K4) (l := (paAt l k).p) (y1 + 1 + 1) (by omega) (by omega) (by have h6 := S5.out; have h7 := HZ.out; have h8 := C5.out; have h9 := Q4.out; omega) O4.out).mono ?_
   rintro e w5 ⟨rfl, hr, ht⟩
   rw [Q4.out] at hr
   have HR5 := hidTPpE (B4.out _ hr ht)
   have HT5 : Hid (Turns F w w5) := HT4.out.trans (ht.mono F4.out)
   clear hr ht
   obtain ⟨y4, hy⟩ : ∃ y4 : Int, y4 = y1 + 1 + 1 + ((pastsD (paAt l k).p).cnt : Int) := ⟨_, rfl⟩
   have HY5 : Hid (y4 = z + (sumC (partsD_f l) (k * 7 + 5) : Int)) := by
    have h8 := S5.out
    have h9 := Q4.out
    show y4 = _
    omega
   have y40 : 0 ≤ y4 := by omega
   have y41 : y4 ≤ 1073741824 := by have h7 := HZ.out; have h8 := C5.out; have h9 := HY5.out; omega
   rw [← hy]
   clear hy
   obtain ⟨u5, K5, g5, o5, f5, b5⟩ := HR5.out.mk_row (m := k * 7 + 5) (by omega)
   rw [E5.out] at o5 b5
   have O5 := hidTPpE o5
   have B5 := hidTPpE b5
   have F5 : Hid (∀ b, K5 b → F b) := f5
   clear o5 b5 f5
   have hq5 : y4 = z + (sumC (partsD_f l) (k * 7 + 5) : Int) := by (have e := HY5.out; simp only [Dat.cnt] at *; omega)
   have hb5 : y4 ≤ 1073741824 := by have := HZ.out; have := C5.out; omega
   have Q5 := hidTPpE hq5
   clear hq5
   go_wp2_with fail
   clear g5
   refine (mark_evs (F := K5) (l := (paAt l k).t) (y4) (by omega) (by omega) (by omega) O5.out).mono ?_
   rintro e w6 ⟨rfl, hr, ht⟩
   rw [Q5.out] at hr
   have HR6 := hidTPpE (B5.out _ hr ht)
   have HT6 : Hid (Turns F w w6) := HT5.out.trans (ht.mono F5.out)
   clear hr ht
   obtain ⟨y5, hy⟩ : ∃ y5 : Int, y5 = y4 + ((evsD (paAt l k).t).cnt : Int) := ⟨_, rfl⟩
   have HY6 : Hid (y5 = z + (sumC (partsD_f l) (k * 7 + 6) : Int)) := by
    have h8 := S6.out
    have h9 := Q5.out
    show y5 = _
    omega
   have y50 : 0 ≤ y5 := by omega
   have y51 : y5 ≤ 1073741824 := by have h7 := HZ.out; have h8 := C6.out; have h9 := HY6.out; omega
   rw [← hy]
   clear hy
   obtain ⟨u6, K6, g6, o6, f6, b6⟩ := HR6.out.mk_row (m := k * 7 + 6) (by omega)
   rw [E6.out] at o6 b6
   have O6 := hidTPpE o6
   have B6 := hidTPpE b6
   have F6 : Hid (∀ b, K6 b → F b) := f6
   clear o6 b6 f6
   have hq6 : y5 = z + (sumC (partsD_f l) (k * 7 + 6) : Int) := by (have e := HY6.out; simp only [Dat.cnt] at *; omega)
   have hb6 : y5 ≤ 1073741824 := by have := HZ.out; have := C6.out; omega
   have Q6 := hidTPpE hq6
   clear hq6
   go_wp2_with fail
   clear g6
   refine (mark_ints (F := K6) (l := (paAt l k).a) (y5) (by omega) (by omega) (by omega) O6.out).mono ?_
   rintro e w7 ⟨rfl, hr, ht⟩
   rw [Q6.out] at hr
   have HR7 := hidTPpE (B6.out _ hr ht)
   have HT7 : Hid (Turns F w w7) := HT6.out.trans (ht.mono F6.out)
   clear hr ht
   obtain ⟨y6, hy⟩ : ∃ y6 : Int, y6 = y5 + ((intsD (paAt l k).a).cnt : Int) := ⟨_, rfl⟩
   have HY7 : Hid (y6 = z + (sumC (partsD_f l) (k * 7 + 7) : Int)) := by
    have h8 := S7.out
    have h9 := Q6.out
    show y6 = _
    omega
   have y60 : 0 ≤ y6 := by omega
   have y61 : y6 ≤ 1073741824 := by have h7 := HZ.out; have h8 := C7.out; have h9 := HY7.out; omega
   rw [← hy]
   clear hy
   go_wp2
   go_roundw
   case rel =>
    refine ⟨k + 1, by omega, by go_num, ?_, ?_, HT7.out⟩
    ·rw [show y6 = z + (sumC (partsD_f l) ((k + 1) * 7) : Int) from by rw [show (k + 1) * 7 = k * 7 + 7 from by omega]; (have e := HY7.out; simp only [Dat.cnt] at *; omega)]
    ·rw [show (k + 1) * 7 = k * 7 + 7 from by omega]
     exact HR7.out
   case measure => simp [intOf]; omega
  ·go_wp2
   go_ret
   obtain rfl : k = l.length := by omega
   exact ⟨rfl, HR.out.mkAll, HT.out⟩
end Go.Proofs.YthfhibnnkpbeiaaGreat

/- heldPartS: the marks are found again. -/
namespace Go.Proofs.YthfhibnnkpbeiaaGreat
open Go.RowKit
theorem hidTPpF {p : Prop} (h : p) : Hid p := h
set_option maxRecDepth 100000 in
set_option maxHeartbeats 8000000 in
theorem held_parts {F : Nat → Prop} {x : Value} {l : List Pa} {w : World} (z : Int) (hn : (partsD l).wt ≤ 1048577) (hz0 : 0 ≤ z) (hz1 : z + ((partsD l).cnt : Int) ≤ 1073741824) (h : OwnD w F x ((partsD l).mark z)) :
  Calls Tryz.prog 48 #[x, .int .i64 z] w fun e w' => e = .returned (.int .i64 (z + ((partsD l).cnt : Int))) ∧ Below w.heap.size w w' := by
 obtain ⟨a, cap, rfl, h2, ha⟩ := OwnD.mslice (c := 7) (n := l.length) h
 have HR0 := hidTPpF h
 have HS := hidTPpF hn
 have HZ := hidTPpF hz1
 have hl2 : l.length ≤ 1048577 := by rw [partsD_wt] at hn; omega
 clear h hn hz1 h2
 go_enter Tryz.func48, Tryz.ntmps48
 go_wp2
 go_loopw [5, 1] (fun i y wr => ∃ k : Nat, k ≤ l.length ∧ i = .int .i64 k ∧ y = .int .i64 (z + (sumC (partsD_f l) (k * 7) : Int)) ∧ Below w.heap.size w wr) (fun i _ _ => l.length - (intOf i).toNat)
 case atStart => exact ⟨0, Nat.zero_le _, rfl, by simp [sumC, sumL], Below.refl _ _⟩
 case round =>
  obtain ⟨k, hk, rfl, rfl, hB⟩ := hrel
  have HB := hidTPpF hB
  clear hB
  by_cases hlt : k < l.length
  ·obtain ⟨g, rfl⟩ := ha.resolve_left (by omega)
   have HR := hidTPpF (HR0.out.under HB.out)
   have hwt : (paAt l k).wt ≤ 1048577 := Nat.le_trans (Pa.wt_le hlt) HS.out
   unfold Pa.wt at hwt
   simp only [evs_wt, ints_wt] at hwt
   have E0 := hidTPpF (partsD_at l k (r := 0) (by omega))
   have E1 := hidTPpF (partsD_at l k (r := 1) (by omega))
   have E2 := hidTPpF (partsD_at l k (r := 2) (by omega))
   have E3 := hidTPpF (partsD_at l k (r := 3) (by omega))
   have E4 := hidTPpF (partsD_at l k (r := 4) (by omega))
   have E5 := hidTPpF (partsD_at l k (r := 5) (by omega))
   have E6 := hidTPpF (partsD_at l k (r := 6) (by omega))
   have C0 : Hid (sumC (partsD_f l) (k * 7) ≤ (partsD l).cnt) := sumC_le (by omega)
   have S1 : Hid (sumC (partsD_f l) (k * 7 + 1) = sumC (partsD_f l) (k * 7) + (Dat.val (.int .i64 (paAt l k).n)).cnt) := by
    have e := sumC_succ (partsD_f l) (k * 7 + 0)
    rw [E0.out] at e
    exact e
   have C1 : Hid (sumC (partsD_f l) (k * 7 + 1) ≤ (partsD l).cnt) := sumC_le (by omega)
   have S2 : Hid (sumC (partsD_f l) (k * 7 + 2) = sumC (partsD_f l) (k * 7 + 1) + (intsD (paAt l k).st.r).cnt) := by
    have e := sumC_succ (partsD_f l) (k * 7 + 1)
    rw [E1.out] at e
    exact e
   have C2 : Hid (sumC (partsD_f l) (k * 7 + 2) ≤ (partsD l).cnt) := sumC_le (by omega)
   have S3 : Hid (sumC (partsD_f l) (k * 7 + 3) = sumC (partsD_f l) (k * 7 + 2) + (Dat.val (.int .i64 (paAt l k).st.q)).cnt) := by
    have e := sumC_succ (partsD_f l) (k * 7 + 2)
    rw [E2.out] at e
    exact e
   have C3 : Hid (sumC (partsD_f l) (k * 7 + 3) ≤ (partsD l).cnt) := sumC_le (by omega)
   have S4 : Hid (sumC (partsD_f l) (k * 7 + 4) = sumC (partsD_f l) (k * 7 + 3) + (Dat.val (.int .i64 (paAt l k).st.d)).cnt) := by
    have e := sumC_succ (partsD_f l) (k * 7 + 3)
    rw [E3.out] at e
    exact e
   have C4 : Hid (sumC (partsD_f l) (k * 7 + 4) ≤ (partsD l).cnt) := sumC_le (by omega)
   have S5 : Hid (sumC (partsD_f l) (k * 7 + 5) = sumC (partsD_f l) (k * 7 + 4) + (pastsD (paAt l k).p).cnt) := by
    have e := sumC_succ (partsD_f l) (k * 7 + 4)
    rw [E4.out] at e
    exact e
   have C5 : Hid (sumC (partsD_f l) (k * 7 + 5) ≤ (partsD l).cnt) := sumC_le (by omega)
   have S6 : Hid (sumC (partsD_f l) (k * 7 + 6) = sumC (partsD_f l) (k * 7 + 5) + (evsD (paAt l k).t).cnt) := by
    have e := sumC_succ (partsD_f l) (k * 7 + 5)
    rw [E5.out] at e
    exact e
   have C6 : Hid (sumC (partsD_f l) (k * 7 + 6) ≤ (partsD l).cnt) := sumC_le (by omega)
   have S7 : Hid (sumC (partsD_f l) (k * 7 + 7) = sumC (partsD_f l) (k * 7 + 6) + (intsD (paAt l k).a).cnt) := by
    have e := sumC_succ (partsD_f l) (k * 7 + 6)
    rw [E6.out] at e
    exact e
   have C7 : Hid (sumC (partsD_f l) (k * 7 + 7) ≤ (partsD l).cnt) := sumC_le (by omega)
   obtain ⟨y, hy⟩ : ∃ y : Int, y = z + (sumC (partsD_f l) (k * 7) : Int) := ⟨_, rfl⟩
   have HY0 := hidTPpF hy
   have y0 : 0 ≤ y := by omega
   rw [← hy]
   clear hy
   have g0 : wr.cell? ⟨g, k * 7, none⟩ = some (.int .i64 y) := OwnD.marked_val (c := 7) (n := l.length) (f := (partsD_f l)) HR.out (j := k * 7) (by omega) E0.out (by
    show _ = Value.int .i64 (z + (sumC (partsD_f l) (k * 7) : Int))
    rw [show y = z + (sumC (partsD_f l) (k * 7) : Int) from by (have e := HY0.out; simp only [Dat.cnt] at *; omega)])
   obtain ⟨u1, K1, g1, o1⟩ := OwnD.marked (c := 7) (n := l.length) (f := (partsD_f l)) HR.out (j := k * 7 + 1) (by omega)
   rw [E1.out] at o1
   have hq1 : y + 1 = z + (sumC (partsD_f l) (k * 7 + 1) : Int) := by (have e := HY0.out; have e1 := S1.out; simp only [Dat.cnt] at *; omega)
   have hb1 : y + 1 ≤ 1073741824 := by have := HZ.out; have := C1.out; omega
   rw [← hq1] at o1
   have O1 := hidTPpF o1
   have Q1 := hidTPpF hq1
   clear hq1 o1
   go_wp2_with fail
   clear g1 g0
   refine (held_ints (F := K1) (l := (paAt l k).st.r) (y + 1) (by omega) (by omega) (by omega) O1.out).mono ?_
   rintro e w2 ⟨rfl, hb⟩
   have HR2 := hidTPpF (HR.out.under hb)
   have HB2 := hidTPpF (HB.out.trans (hb.mono HB.out.size))
   clear hb
   obtain ⟨y1, hy⟩ : ∃ y1 : Int, y1 = y + 1 + ((intsD (paAt l k).st.r).cnt : Int) := ⟨_, rfl⟩
   have HY2 : Hid (y1 = z + (sumC (partsD_f l) (k * 7 + 2) : Int)) := by
    have h8 := S2.out
    have h9 := Q1.out
    show y1 = _
    omega
   have y10 : 0 ≤ y1 := by omega
   have y11 : y1 ≤ 1073741824 := by have h7 := HZ.out; have h8 := C2.out; have h9 := HY2.out; omega
   have y12 : ¬ (y1 < 0) := by omega
   rw [← hy]
   clear hy
   have g2 : w2.cell? ⟨g, k * 7 + 2, none⟩ = some (.int .i64 y1) := OwnD.marked_val (c := 7) (n := l.length) (f := (partsD_f l)) HR2.out (j := k * 7 + 2) (by omega) E2.out (by
    show _ = Value.int .i64 (z + (sumC (partsD_f l) (k * 7 + 2) : Int))
    rw [show y1 = z + (sumC (partsD_f l) (k * 7 + 2) : Int) from by (have e := HY2.out; simp only [Dat.cnt] at *; omega)])
   have g3 : w2.cell? ⟨g, k * 7 + 3, none⟩ = some (.int .i64 (y1 + 1)) := OwnD.marked_val (c := 7) (n := l.length) (f := (partsD_f l)) HR2.out (j := k * 7 + 3) (by omega) E3.out (by
    show _ = Value.int .i64 (z + (sumC (partsD_f l) (k * 7 + 3) : Int))
    rw [show y1 + 1 = z + (sumC (partsD_f l) (k * 7 + 3) : Int) from by (have e := HY2.out; have e3 := S3.out; simp only [Dat.cnt] at *; omega)])
   obtain ⟨u4, K4, g4, o4⟩ := OwnD.marked (c := 7) (n := l.length) (f := (partsD_f l)) HR2.out (j := k * 7 + 4) (by omega)
   rw [E4.out] at o4
   have hq4 : y1 + 1 + 1 = z + (sumC (partsD_f l) (k * 7 + 4) : Int) := by (have e := HY2.out; have e3 := S3.out; have e4 := S4.out; simp only [Dat.cnt] at *; omega)
   have hb4 : y1 + 1 + 1 ≤ 1073741824 := by have := HZ.out; have := C4.out; omega
   rw [← hq4] at o4
   have O4 := hidTPpF o4
   have Q4 := hidTPpF hq4
   clear hq4 o4
   go_wp2_with fail
   clear g4 g3 g2
   refine (held_pasts (F := K4) (l := (paAt l k).p) (y1 + 1 + 1) (by omega) (by omega) (by have h6 := S5.out; have h7 := HZ.out; have h8 := C5.out; have h9 := Q4.out; omega) O4.out).mono ?_
   rintro e w5 ⟨rfl, hb⟩
   have HR5 := hidTPpF (HR2.out.under hb)
   have HB5 := hidTPpF (HB2.out.trans (hb.mono HB2.out.size))
   clear hb
   obtain ⟨y4, hy⟩ : ∃ y4 : Int, y4 = y1 + 1 + 1 + ((pastsD (paAt l k).p).cnt : Int) := ⟨_, rfl⟩
   have HY5 : Hid (y4 = z + (sumC (partsD_f l) (k * 7 + 5) : Int)) := by
    have h8 := S5.out
    have h9 := Q4.out
    show y4 = _
    omega
   have y40 : 0 ≤ y4 := by omega
   have y41 : y4 ≤ 1073741824 := by have h7 := HZ.out; have h8 := C5.out; have h9 := HY5.out; omega
   have y42 : ¬ (y4 < 0) := by omega
   rw [← hy]
   clear hy
   obtain ⟨u5, K5, g5, o5⟩ := OwnD.marked (c := 7) (n := l.length) (f := (partsD_f l)) HR5.out (j := k * 7 + 5) (by omega)
   rw [E5.out] at o5
   have hq5 : y4 = z + (sumC (partsD_f l) (k * 7 + 5) : Int) := by (have e := HY5.out; simp only [Dat.cnt] at *; omega)
   have hb5 : y4 ≤ 1073741824 := by have := HZ.out; have := C5.out; omega
   rw [← hq5] at o5
   have O5 := hidTPpF o5
   have Q5 := hidTPpF hq5
   clear hq5 o5
   go_wp2_with fail
   clear g5
   refine (held_evs (F := K5) (l := (paAt l k).t) (y4) (by omega) (by omega) (by omega) O5.out).mono ?_
   rintro e w6 ⟨rfl, hb⟩
   have HR6 := hidTPpF (HR5.out.under hb)
   have HB6 := hidTPpF (HB5.out.trans (hb.mono HB5.out.size))
   clear hb
   obtain ⟨y5, hy⟩ : ∃ y5 : Int, y5 = y4 + ((evsD (paAt l k).t).cnt : Int) := ⟨_, rfl⟩
   have HY6 : Hid (y5 = z + (sumC (partsD_f l) (k * 7 + 6) : Int)) := by
    have h8 := S6.out
    have h9 := Q5.out
    show y5 = _
    omega
   have y50 : 0 ≤ y5 := by omega
   have y51 : y5 ≤ 1073741824 := by have h7 := HZ.out; have h8 := C6.out; have h9 := HY6.out; omega
   have y52 : ¬ (y5 < 0) := by omega
   rw [← hy]
   clear hy
   obtain ⟨u6, K6, g6, o6⟩ := OwnD.marked (c := 7) (n := l.length) (f := (partsD_f l)) HR6.out (j := k * 7 + 6) (by omega)
   rw [E6.out] at o6
   have hq6 : y5 = z + (sumC (partsD_f l) (k * 7 + 6) : Int) := by (have e := HY6.out; simp only [Dat.cnt] at *; omega)
   have hb6 : y5 ≤ 1073741824 := by have := HZ.out; have := C6.out; omega
   rw [← hq6] at o6
   have O6 := hidTPpF o6
   have Q6 := hidTPpF hq6
   clear hq6 o6
   go_wp2_with fail
   clear g6
   refine (held_ints (F := K6) (l := (paAt l k).a) (y5) (by omega) (by omega) (by omega) O6.out).mono ?_
   rintro e w7 ⟨rfl, hb⟩
   have HR7 := hidTPpF (HR6.out.under hb)
   have HB7 := hidTPpF (HB6.out.trans (hb.mono HB6.out.size))
   clear hb
   obtain ⟨y6, hy⟩ : ∃ y6 : Int, y6 = y5 + ((intsD (paAt l k).a).cnt : Int) := ⟨_, rfl⟩
   have HY7 : Hid (y6 = z + (sumC (partsD_f l) (k * 7 + 7) : Int)) := by
    have h8 := S7.out
    have h9 := Q6.out
    show y6 = _
    omega
   have y60 : 0 ≤ y6 := by omega
   have y61 : y6 ≤ 1073741824 := by have h7 := HZ.out; have h8 := C7.out; have h9 := HY7.out; omega
   have y62 : ¬ (y6 < 0) := by omega
   rw [← hy]
   clear hy
   go_wp2
   go_roundw
   case rel =>
    refine ⟨k + 1, by omega, by go_num, ?_, HB7.out⟩
    rw [show y6 = z + (sumC (partsD_f l) ((k + 1) * 7) : Int) from by rw [show (k + 1) * 7 = k * 7 + 7 from by omega]; (have e := HY7.out; simp only [Dat.cnt] at *; omega)]
   case measure => simp [intOf]; omega
  ·go_wp2
   go_ret
   obtain rfl : k = l.length := by omega
   exact ⟨rfl, HB.out⟩
end Go.Proofs.YthfhibnnkpbeiaaGreat

