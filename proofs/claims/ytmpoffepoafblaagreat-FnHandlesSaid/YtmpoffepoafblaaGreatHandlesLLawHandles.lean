/- At every code of at most 2^47 - 4096 bytes (the form's own reach): what is done leaves registers that may be; what is sent is later, in order, and one's own; where something is asked for nothing is done; the fixed model asks at its third; the code reads as it did; no condition. -/
import Derived.Test.YtmpoffepoafblaaGreatClHandles
import Derived.Deep.Cut
import Derived.Deep.RegionHeld3
import Derived.Test.YtmpoffepoafblaaGreatHandlesG37
import Derived.Test.YtmpoffepoafblaaGreatHandlesG38
import Derived.Test.YtmpoffepoafblaaGreatHandlesG46
namespace Go.Proofs.YtmpoffepoafblaaGreat.LawHandles
open Go.ChangeShapes Go.WideShapes Go.ChangeAt Go.RowKit Go.Proofs.YtmpoffepoafblaaGreat

theorem efSt {F : Nat → Prop} {w : World} {a b c d e g : Value} {f : Ef} (h : EfF F w (.agg #[a, b, c, d, e, g]) f) : IsS w (.agg #[a, b, c]) f.st := by
  obtain ⟨A, B, C, vr, us, ux, he, h1, _⟩ := h
  simp at he
  obtain ⟨rfl, rfl, rfl, _⟩ := he
  exact ⟨_, rfl, h1.isI⟩
set_option maxRecDepth 100000 in
set_option maxHeartbeats 32000000 in
theorem walk (a : Option Addr) (n cap : Nat) (w : World) (hn : n ≤ 140737488351232) (hC : CodeIn w w.heap.size a n) :
    Calls Tryz.prog 4 #[.slice a n cap] w fun e w' => e = .returned (.bool true) ∧ Below w.heap.size w w' := by
  have HC : Hid (CodeIn w w.heap.size a n) := hC
  clear hC
  go_enter Tryz.func4, Tryz.ntmps4
  go_wp2_with fail
  refine (drawHan_any a n cap _ (by omega) HC.out).mono ?_
  rintro r w1 ⟨m, xm, xd, xs, l, s, e, rfl, hM, hTy, hD, hl, hS, hs2, hq0, hq1, hB⟩
  have HM : Hid (IsM w1 xm m) := hM
  have HD : Hid (IsI w1 xd l) := hD
  have HS : Hid (IsS w1 xs s) := hS
  have HL : Hid (l.length = 4) := hl
  have HTy : Hid (Tiny m) := hTy
  have hs2r : Hid (s.r.length ≤ 4611686018427387904) := Nat.le_trans hs2 (by omega)
  have HB1 : Hid (Below w.heap.size w w1) := hB
  obtain ⟨vi, vh, vs, rfl, ⟨ai, ci, rfl, _⟩, ⟨ah, ch, rfl, _⟩, ⟨ae, ce, rfl, _⟩⟩ := hM
  obtain ⟨vr, rfl, ⟨ar, cr, rfl, _⟩⟩ := hS
  obtain ⟨et, es, eq, ed, ek, ev, eg⟩ := e
  clear hD hl hTy hB hs2 HC
  obtain ⟨W1, hW1⟩ : ∃ W1, ((w1.alloc (.cells #[.int .i64 m.n, .int .i64 m.s, .slice ai m.i.length ci, .slice ah m.h.length ch, .slice ae m.e.length ce, .int .i64 m.z] 36)).alloc (.cells #[.slice ar s.r.length cr, .int .i64 s.q, .int .i64 s.d] 48)).alloc (.cells #[.int .i64 et, .int .i64 es, .int .i64 eq, .int .i64 ed, .int .i64 ek, .int .i64 ev, .int .i64 eg] 50) = W1 := ⟨_, rfl⟩
  have HW1 : Hid (((w1.alloc (.cells #[.int .i64 m.n, .int .i64 m.s, .slice ai m.i.length ci, .slice ah m.h.length ch, .slice ae m.e.length ce, .int .i64 m.z] 36)).alloc (.cells #[.slice ar s.r.length cr, .int .i64 s.q, .int .i64 s.d] 48)).alloc (.cells #[.int .i64 et, .int .i64 es, .int .i64 eq, .int .i64 ed, .int .i64 ek, .int .i64 ev, .int .i64 eg] 50) = W1) := hW1
  have hb1 : Below w1.heap.size w1 W1 := hW1 ▸ (((Below.refl _ w1).alloc (Nat.le_refl _) _).alloc (by simp) _).alloc (by simp; omega) _
  have KM1 : Hid (Bk W1 w1.heap.size 36 #[.int .i64 m.n, .int .i64 m.s, .slice ai m.i.length ci, .slice ah m.h.length ch, .slice ae m.e.length ce, .int .i64 m.z]) := hW1 ▸ ((Bk.new w1 _ _).alloc _).alloc _
  have KS1 : Hid (Bk W1 (w1.heap.size + 1) 48 #[.slice ar s.r.length cr, .int .i64 s.q, .int .i64 s.d]) := hW1 ▸ (Bk.newAt (by simp) _ _).alloc _
  have KE1 : Hid (Bk W1 (w1.heap.size + 1 + 1) 50 #[.int .i64 et, .int .i64 es, .int .i64 eq, .int .i64 ed, .int .i64 ek, .int .i64 ev, .int .i64 eg]) := hW1 ▸ Bk.newAt (by simp) _ _
  have HBW : Hid (Below w1.heap.size w1 W1) := hb1
  have hz1 : W1.heap.size = w1.heap.size + 1 + 1 + 1 := by rw [← hW1]; simp
  clear hW1 hb1
  have p0 := KM1.out.cell (i := 0) rfl
  have p1 := KM1.out.cell (i := 1) rfl
  have p2 := KM1.out.cell (i := 2) rfl
  have p3 := KM1.out.cell (i := 3) rfl
  have p4 := KM1.out.cell (i := 4) rfl
  have p5 := KM1.out.cell (i := 5) rfl
  have s0 := KS1.out.cell (i := 0) rfl
  have s1 := KS1.out.cell (i := 1) rfl
  have s2 := KS1.out.cell (i := 2) rfl
  have e0 := KE1.out.cell (i := 0) rfl
  have e1 := KE1.out.cell (i := 1) rfl
  have e2 := KE1.out.cell (i := 2) rfl
  have e3 := KE1.out.cell (i := 3) rfl
  have e4 := KE1.out.cell (i := 4) rfl
  have e5 := KE1.out.cell (i := 5) rfl
  have e6 := KE1.out.cell (i := 6) rfl
  go_upto_region 2 with fail
  rw [HW1.out]
  clear HW1
  go_wp2_with fail
  clear p0 p1 p2 p3 p4 p5 s0 s1 s2 e0 e1 e2 e3 e4 e5 e6
  refine (iHan _ _ _ m l s ⟨et, es, eq, ed, ek, ev, eg⟩ W1 HTy.out.small (by have := HL.out; omega) (HM.out.below HBW.out) (HD.out.below HBW.out) (HS.out.below HBW.out)).mono ?_
  rintro r w2 ⟨u, rfl, hb, hE⟩
  have KS2 : Hid (Bk w2 (w1.heap.size + 1) 48 #[.slice ar s.r.length cr, .int .i64 s.q, .int .i64 s.d]) := KS1.out.below hb
  have KE2 : Hid (Bk w2 (w1.heap.size + 1 + 1) 50 #[.int .i64 et, .int .i64 es, .int .i64 eq, .int .i64 ed, .int .i64 ek, .int .i64 ev, .int .i64 eg]) := KE1.out.below hb
  have HB2 : Hid (Below w1.heap.size w1 w2) := HBW.out.trans (hb.mono HBW.out.size)
  have hz2 : W1.heap.size ≤ w2.heap.size := hb.size
  have HF : Hid (handB m l s ⟨et, es, eq, ed, ek, ev, eg⟩ = true → _) := han_facts (m := m) (l := l) (s := s) (e := ⟨et, es, eq, ed, ek, ev, eg⟩)
  have HZ : Hid (handB m l s ⟨et, es, eq, ed, ek, ev, eg⟩ = false → handR m l s ⟨et, es, eq, ed, ek, ev, eg⟩ = zeroE) := fun h => by simp [handR, h]
  have HE : Hid (EfF (fun k => W1.heap.size ≤ k ∧ k < w2.heap.size) w2 u (handR m l s ⟨et, es, eq, ed, ek, ev, eg⟩)) := hE
  clear hb hE KM1 KS1 KE1 HBW
  generalize handR m l s ⟨et, es, eq, ed, ek, ev, eg⟩ = R at HE HF HZ
  cases hok : handB m l s ⟨et, es, eq, ed, ek, ev, eg⟩ with
  | false =>
    have hR := HZ.out hok
    subst hR
    obtain ⟨fa, fc, ga, gc, ha, hc, rfl⟩ := HE.out.form
    clear HZ HF hok HE KS2 KE2
    go_wp2_with fail
    refine (models_any _).mono ?_
    rintro e w3 ⟨rfl, hb⟩
    have HB3 : Hid (Below w.heap.size w w3) := (HB1.out.trans (HB2.out.mono HB1.out.size)).trans ((((Below.refl _ w2).alloc (Nat.le_refl _) _).trans (hb.mono (by simp))).mono (by have := HB1.out.size; have := HB2.out.size; omega))
    clear hb
    go_wp2
    go_ret
    exact ⟨rfl, HB3.out⟩
  | true =>
    obtain ⟨hq2, hq3, _, hcase⟩ := HF.out hok
    clear HZ HF hok hq0 hq1
    obtain ⟨st, sl, xl, kk⟩ := R
    rcases hcase with hA | hA
    · obtain ⟨k0, k1, hv, hst, hsl, hxl⟩ := hA
      simp only at k0 k1 hv hst hsl hxl
      replace hst := hst.symm
      subst hst hsl hxl
      obtain ⟨k, hk⟩ : ∃ k : Nat, kk = (k : Int) := ⟨kk.toNat, by omega⟩
      subst hk
      have hk3 : k ≤ 3 := by omega
      rw [Int.toNat_natCast] at hv
      obtain ⟨fa, fc, ga, gc, ha, hc, hu⟩ := HE.out.form
      subst hu
      obtain ⟨W3, hW3⟩ : ∃ W3, w2.alloc (.cells #[.slice fa s.r.length fc, .int .i64 s.q, .int .i64 s.d, .slice ga 0 gc, .slice ha 0 hc, .int .i64 (k : Int)] 54) = W3 := ⟨_, rfl⟩
      have HW3 : Hid (w2.alloc (.cells #[.slice fa s.r.length fc, .int .i64 s.q, .int .i64 s.d, .slice ga 0 gc, .slice ha 0 hc, .int .i64 (k : Int)] 54) = W3) := hW3
      have KF : Hid (Bk W3 w2.heap.size 54 #[.slice fa s.r.length fc, .int .i64 s.q, .int .i64 s.d, .slice ga 0 gc, .slice ha 0 hc, .int .i64 (k : Int)]) := hW3 ▸ Bk.new w2 _ _
      have KS3 : Hid (Bk W3 (w1.heap.size + 1) 48 #[.slice ar s.r.length cr, .int .i64 s.q, .int .i64 s.d]) := hW3 ▸ KS2.out.alloc _
      have hb3 : Below w2.heap.size w2 W3 := hW3 ▸ (Below.refl _ w2).alloc (Nat.le_refl _) _
      have HD3 : Hid (IsI W3 xd l) := (HD.out.below HB2.out).below hb3
      have HS3 : Hid (IsS W3 (.agg #[.slice ar s.r.length cr, .int .i64 s.q, .int .i64 s.d]) s) := (HS.out.below HB2.out).below hb3
      have HX3 : Hid (IsS W3 (.agg #[.slice fa s.r.length fc, .int .i64 s.q, .int .i64 s.d]) s) := (efSt HE.out).below hb3
      have HB3 : Hid (Below w1.heap.size w1 W3) := HB2.out.trans (hb3.mono HB2.out.size)
      obtain ⟨ad, cd, hxd, _, _, hrow⟩ := HD3.out
      obtain ⟨b, off, had, hI⟩ := hrow.resolve_left (fun e => by have := HL.out; rw [e] at this; simp at this)
      subst had
      rw [HL.out] at hxd
      subst hxd
      have hci := hI.2 k (by have := HL.out; omega)
      obtain ⟨z, hz⟩ : ∃ z, intAt l k = z := ⟨_, rfl⟩
      rw [hz] at hci hv
      clear hb3 hrow hI hz HE KE2 KS2 HM HW3
      have hki : (0 : Int) ≤ (k : Int) ∧ (k : Int) < 4 := by omega
      have f0 := KF.out.cell (i := 0) rfl
      have f1 := KF.out.cell (i := 1) rfl
      have f2 := KF.out.cell (i := 2) rfl
      have f3 := KF.out.cell (i := 3) rfl
      have f4 := KF.out.cell (i := 4) rfl
      have f5 := KF.out.cell (i := 5) rfl
      have s0 := KS3.out.cell (i := 0) rfl
      have s1 := KS3.out.cell (i := 1) rfl
      have s2 := KS3.out.cell (i := 2) rfl
      go_wp2_with fail
      clear hW3
      refine (sameS_same _ _ s _ hs2r.out HX3.out HS3.out).mono ?_
      rintro e w4 ⟨rfl, hb⟩
      have KF4 := KF.out.below hb
      have h3 := KF4.cell (i := 3) rfl
      have h4 := KF4.cell (i := 4) rfl
      have HB4 : Hid (Below w1.heap.size w1 w4) := HB3.out.trans (hb.mono HB3.out.size)
      clear hb KF4 f0 f1 f2 f3 f4 f5 s0 s1 s2 hci
      go_wp2_with fail
      refine (models_any _).mono ?_
      rintro e w5 ⟨rfl, hb⟩
      have HB5 : Hid (Below w.heap.size w w5) := HB1.out.trans ((HB4.out.trans (hb.mono HB4.out.size)).mono HB1.out.size)
      clear hb
      go_wp2
      go_ret
      exact ⟨rfl, HB5.out⟩
    · obtain ⟨kn, hsl, hxl, hq, ⟨ra, rb, hr, ra0, ra1, rb0, rb1⟩, hss, hxx⟩ := hA
      simp only at kn hsl hxl hq hr hss hxx
      obtain ⟨sr, sq, sd⟩ := st
      simp only at hq hr
      subst kn hq hr
      have HSS : Hid (∀ j, j < sl.length → et < (evAt sl j).t ∧ (evAt sl j).s = ed ∧ (evAt sl j).q = s.q + (j : Int) ∧ (evAt sl j).ok = true) := hss
      have HXX : Hid (∀ j, j < xl.length → (xAt xl j).t = et ∧ (xAt xl j).l = ed) := hxx
      clear hss hxx
      obtain ⟨A, B, C, vr, us, ux, hu, h1, h2, h3, _⟩ := HE.out
      have HRr : Hid (RowF A w2 vr 2 1 (intCells [ra, rb])) := h1
      have HRs : Hid (RowF B w2 us sl.length 7 (cellsL sl)) := h2
      have HRx : Hid (RowF C w2 ux xl.length 3 (cellsX xl)) := h3
      obtain ⟨_, fa, fc, rfl, _⟩ := h1
      obtain ⟨_, ga, gc, rfl, _⟩ := h2
      obtain ⟨_, ha, hc, rfl, _⟩ := h3
      subst hu
      obtain ⟨W3, hW3⟩ : ∃ W3, w2.alloc (.cells #[.slice fa 2 fc, .int .i64 (s.q + (sl.length : Int)), .int .i64 sd, .slice ga sl.length gc, .slice ha xl.length hc, .int .i64 (-1)] 54) = W3 := ⟨_, rfl⟩
      have HW3 : Hid (w2.alloc (.cells #[.slice fa 2 fc, .int .i64 (s.q + (sl.length : Int)), .int .i64 sd, .slice ga sl.length gc, .slice ha xl.length hc, .int .i64 (-1)] 54) = W3) := hW3
      have KF : Hid (Bk W3 w2.heap.size 54 #[.slice fa 2 fc, .int .i64 (s.q + (sl.length : Int)), .int .i64 sd, .slice ga sl.length gc, .slice ha xl.length hc, .int .i64 (-1)]) := hW3 ▸ Bk.new w2 _ _
      have KS3 : Hid (Bk W3 (w1.heap.size + 1) 48 #[.slice ar s.r.length cr, .int .i64 s.q, .int .i64 s.d]) := hW3 ▸ KS2.out.alloc _
      have KE3 : Hid (Bk W3 (w1.heap.size + 1 + 1) 50 #[.int .i64 et, .int .i64 es, .int .i64 eq, .int .i64 ed, .int .i64 ek, .int .i64 ev, .int .i64 eg]) := hW3 ▸ KE2.out.alloc _
      have hb3 : Below w2.heap.size w2 W3 := hW3 ▸ (Below.refl _ w2).alloc (Nat.le_refl _) _
      have HR3 : Hid (RowF A W3 (.slice fa 2 fc) 2 1 (intCells [ra, rb])) := HRr.out.below hb3
      have HE3 : Hid (IsEvs W3 (.slice ga sl.length gc) sl) := (HRs.out.below hb3).isEvs
      have HX3 : Hid (RowF C W3 (.slice ha xl.length hc) xl.length 3 (cellsX xl)) := HRx.out.below hb3
      have HB3 : Hid (Below w1.heap.size w1 W3) := HB2.out.trans (hb3.mono HB2.out.size)
      have hzF : w2.heap.size < W3.heap.size := KF.out.lt
      clear hb3 HE KE2 KS2 HRr HRs HRx HM HD HS HW3
      have f5 := KF.out.cell (i := 5) rfl
      go_wp2_with fail
      clear f5 hW3
      go_loopw [9] (fun i wr => ∃ k : Nat, k ≤ sl.length ∧ i = .int .i64 k ∧ Below W3.heap.size W3 wr) (fun i _ => sl.length - (intOf i).toNat)
      case atStart => exact ⟨0, Nat.zero_le _, rfl, Below.refl _ _⟩
      case round =>
        obtain ⟨i, hi, rfl, hBr⟩ := hrel
        have HBr : Hid (Below W3.heap.size W3 wr) := hBr
        have KFr : Hid (Bk wr w2.heap.size 54 #[.slice fa 2 fc, .int .i64 (s.q + (sl.length : Int)), .int .i64 sd, .slice ga sl.length gc, .slice ha xl.length hc, .int .i64 (-1)]) := KF.out.below hBr
        have f3 := KFr.out.cell (i := 3) rfl
        have f4 := KFr.out.cell (i := 4) rfl
        by_cases hlt : i < sl.length
        · have hli : (i : Int) < (sl.length : Int) := by omega
          obtain ⟨a9, c9, he9, _, _, hr9⟩ := HE3.out
          obtain ⟨ha9, hc9⟩ : ga = a9 ∧ gc = c9 := by simpa using he9
          subst ha9 hc9
          obtain ⟨gb, go, hga, hgb, hgc⟩ := hr9.resolve_left (fun e => by rw [e] at hlt; simp at hlt)
          subst hga
          have hev := (hgc i hlt).below hBr hgb
          have HGB : Hid (gb < W3.heap.size) := hgb
          obtain ⟨x0, x1, x2, x3⟩ := HSS.out i hlt
          generalize evAt sl i = E at hev x0 x1 x2 x3
          obtain ⟨xt, xs, xq, xd, xk, xv, xg⟩ := E
          simp only at x0 x1 x2
          obtain ⟨g0, g1, g2, g3, g4, g5, g6⟩ := hev
          simp only at g0 g1 g2 g3 g4 g5 g6
          have HOK : Hid (okB xt xs xq xd xk xv xg = true) := x3
          replace x1 := x1.symm
          subst x1 x2
          clear x3 hr9 hgc he9
          have n1 : decide (xt ≤ et) = false := decide_eq_false (by omega)
          have n2 : ¬ xt ≤ et := by omega
          have KSr := KS3.out.below hBr
          have KEr := KE3.out.below hBr
          have HQ0 : Hid (wr.drew.cell? ⟨w2.heap.size, 3, none⟩ = some (.slice (some ⟨gb, go, none⟩) sl.length gc) ∧ wr.drew.cell? ⟨gb, go + i * 7, none⟩ = some (.int .i64 xt) ∧ wr.drew.cell? ⟨gb, go + i * 7 + 1, none⟩ = some (.int .i64 ed) ∧ wr.drew.cell? ⟨gb, go + i * 7 + 2, none⟩ = some (.int .i64 (s.q + (i : Int))) ∧ wr.drew.cell? ⟨gb, go + i * 7 + 3, none⟩ = some (.int .i64 xd) ∧ wr.drew.cell? ⟨gb, go + i * 7 + 4, none⟩ = some (.int .i64 xk) ∧ wr.drew.cell? ⟨gb, go + i * 7 + 5, none⟩ = some (.int .i64 xv) ∧ wr.drew.cell? ⟨gb, go + i * 7 + 6, none⟩ = some (.int .i64 xg) ∧ wr.drew.cell? ⟨(w1.heap.size + 1 + 1), 0, none⟩ = some (.int .i64 et) ∧ wr.drew.cell? ⟨(w1.heap.size + 1 + 1), 3, none⟩ = some (.int .i64 ed) ∧ wr.drew.cell? ⟨(w1.heap.size + 1), 1, none⟩ = some (.int .i64 s.q)) := ⟨f3, g0, g1, g2, g3, g4, g5, g6, KEr.cell rfl, KEr.cell rfl, KSr.cell rfl⟩
          clear hBr g0 g1 g2 g3 g4 g5 g6 KSr KEr f4 hgb
          go_wp2_with fail
          clear f3
          refine wp_region_held_drew (S := fun W => W.cell? ⟨w2.heap.size, 3, none⟩ = some (.slice (some ⟨gb, go, none⟩) sl.length gc) ∧ W.cell? ⟨gb, go + i * 7, none⟩ = some (.int .i64 xt) ∧ W.cell? ⟨gb, go + i * 7 + 1, none⟩ = some (.int .i64 ed) ∧ W.cell? ⟨gb, go + i * 7 + 2, none⟩ = some (.int .i64 (s.q + (i : Int))) ∧ W.cell? ⟨gb, go + i * 7 + 3, none⟩ = some (.int .i64 xd) ∧ W.cell? ⟨gb, go + i * 7 + 4, none⟩ = some (.int .i64 xk) ∧ W.cell? ⟨gb, go + i * 7 + 5, none⟩ = some (.int .i64 xv) ∧ W.cell? ⟨gb, go + i * 7 + 6, none⟩ = some (.int .i64 xg) ∧ W.cell? ⟨(w1.heap.size + 1 + 1), 0, none⟩ = some (.int .i64 et) ∧ W.cell? ⟨(w1.heap.size + 1 + 1), 3, none⟩ = some (.int .i64 ed) ∧ W.cell? ⟨(w1.heap.size + 1), 1, none⟩ = some (.int .i64 s.q)) (by kernel_rfl) HQ0.out (fun hHeld => ?_)
          refine wpAnyH_take (i := 0) (oi := { dst := some 76, op := Op.fieldAddr 54 (Operand.tmp 7) 1, type := 0, pos := _, after := _, guard := none }) (v := .pointer (some ⟨w2.heap.size, 3, none⟩)) rfl (by kernel_rfl) (by kernel_rfl) (by kernel_rfl) (fun _ _ _ h => h) (Or.inl ⟨by rfl, ?_⟩) (by assumption) ?_
          · intro wX hSw
            try dsimp only at hSw
            go_simp
            try exact IntWalk.i64_in _ (by omega)
          try simp only [Act.put, List.setIfInBounds_toArray, List.set_cons_zero, List.set_cons_succ]
          refine wpAnyH_take (i := 1) (oi := { dst := some 77, op := Op.load 28 (Operand.tmp 76), type := 28, pos := _, after := _, guard := none }) (v := .slice (some ⟨gb, go, none⟩) sl.length gc) rfl (by kernel_rfl) (by kernel_rfl) (by kernel_rfl) (fun _ _ _ h => h) (Or.inl ⟨by rfl, ?_⟩) (by assumption) ?_
          · intro wX hSw
            try dsimp only at hSw
            go_simp
            try exact IntWalk.i64_in _ (by omega)
          try simp only [Act.put, List.setIfInBounds_toArray, List.set_cons_zero, List.set_cons_succ]
          refine wpAnyH_take (i := 2) (oi := { dst := some 78, op := Op.move (Operand.tmp 9), type := 3, pos := _, after := _, guard := none }) (v := .int .i64 (i : Int)) rfl (by kernel_rfl) (by kernel_rfl) (by kernel_rfl) (fun _ _ _ h => h) (Or.inl ⟨by rfl, ?_⟩) (by assumption) ?_
          · intro wX hSw
            try dsimp only at hSw
            go_simp
            try exact IntWalk.i64_in _ (by omega)
          try simp only [Act.put, List.setIfInBounds_toArray, List.set_cons_zero, List.set_cons_succ]
          refine wpAnyH_take (i := 3) (oi := { dst := some 79, op := Op.indexAddr 28 (Operand.tmp 77) (Operand.tmp 78), type := 0, pos := _, after := _, guard := none }) (v := .pointer (some ⟨gb, go + i * 7, none⟩)) rfl (by kernel_rfl) (by kernel_rfl) (by kernel_rfl) (fun _ _ _ h => h) (Or.inl ⟨by rfl, ?_⟩) (by assumption) ?_
          · intro wX hSw
            try dsimp only at hSw
            go_simp
            try exact IntWalk.i64_in _ (by omega)
          try simp only [Act.put, List.setIfInBounds_toArray, List.set_cons_zero, List.set_cons_succ]
          refine wpAnyH_take (i := 4) (oi := { dst := some 80, op := Op.fieldAddr 50 (Operand.tmp 79) 0, type := 0, pos := _, after := _, guard := none }) (v := .pointer (some ⟨gb, go + i * 7, none⟩)) rfl (by kernel_rfl) (by kernel_rfl) (by kernel_rfl) (fun _ _ _ h => h) (Or.inl ⟨by rfl, ?_⟩) (by assumption) ?_
          · intro wX hSw
            try dsimp only at hSw
            go_simp
            try exact IntWalk.i64_in _ (by omega)
          try simp only [Act.put, List.setIfInBounds_toArray, List.set_cons_zero, List.set_cons_succ]
          refine wpAnyH_take (i := 5) (oi := { dst := some 81, op := Op.load 3 (Operand.tmp 80), type := 3, pos := _, after := _, guard := none }) (v := .int .i64 xt) rfl (by kernel_rfl) (by kernel_rfl) (by kernel_rfl) (fun _ _ _ h => h) (Or.inl ⟨by rfl, ?_⟩) (by assumption) ?_
          · intro wX hSw
            try dsimp only at hSw
            go_simp
            try exact IntWalk.i64_in _ (by omega)
          try simp only [Act.put, List.setIfInBounds_toArray, List.set_cons_zero, List.set_cons_succ]
          refine wpAnyH_take (i := 6) (oi := { dst := some 82, op := Op.fieldAddr 50 (Operand.tmp 6) 0, type := 0, pos := _, after := _, guard := none }) (v := .pointer (some ⟨(w1.heap.size + 1 + 1), 0, none⟩)) rfl (by kernel_rfl) (by kernel_rfl) (by kernel_rfl) (fun _ _ _ h => h) (Or.inl ⟨by rfl, ?_⟩) (by assumption) ?_
          · intro wX hSw
            try dsimp only at hSw
            go_simp
            try exact IntWalk.i64_in _ (by omega)
          try simp only [Act.put, List.setIfInBounds_toArray, List.set_cons_zero, List.set_cons_succ]
          refine wpAnyH_take (i := 7) (oi := { dst := some 83, op := Op.load 3 (Operand.tmp 82), type := 3, pos := _, after := _, guard := none }) (v := .int .i64 et) rfl (by kernel_rfl) (by kernel_rfl) (by kernel_rfl) (fun _ _ _ h => h) (Or.inl ⟨by rfl, ?_⟩) (by assumption) ?_
          · intro wX hSw
            try dsimp only at hSw
            go_simp
            try exact IntWalk.i64_in _ (by omega)
          try simp only [Act.put, List.setIfInBounds_toArray, List.set_cons_zero, List.set_cons_succ]
          refine wpAnyH_take (i := 8) (oi := { dst := some 84, op := Op.binOp BinOp.leq 3 (Operand.tmp 81) (Operand.tmp 83) 3, type := 4, pos := _, after := _, guard := none }) (v := .bool false) rfl (by kernel_rfl) (by kernel_rfl) (by kernel_rfl) (fun _ _ _ h => h) (Or.inl ⟨by rfl, ?_⟩) (by assumption) ?_
          · intro wX hSw
            try dsimp only at hSw
            go_simp
            try exact IntWalk.i64_in _ (by omega)
          try simp only [Act.put, List.setIfInBounds_toArray, List.set_cons_zero, List.set_cons_succ]
          refine wpAnyH_take (i := 9) (oi := { dst := some 85, op := Op.move (Operand.tmp 84), type := 4, pos := _, after := _, guard := none }) (v := .bool false) rfl (by kernel_rfl) (by kernel_rfl) (by kernel_rfl) (fun _ _ _ h => h) (Or.inl ⟨by rfl, ?_⟩) (by assumption) ?_
          · intro wX hSw
            try dsimp only at hSw
            go_simp
            try exact IntWalk.i64_in _ (by omega)
          try simp only [Act.put, List.setIfInBounds_toArray, List.set_cons_zero, List.set_cons_succ]
          refine wpAnyH_take (i := 10) (oi := { dst := some 86, op := Op.fieldAddr 54 (Operand.tmp 7) 1, type := 0, pos := _, after := _, guard := some (9, false) }) (v := .pointer (some ⟨w2.heap.size, 3, none⟩)) rfl (by kernel_rfl) (by kernel_rfl) (by kernel_rfl) (fun _ _ _ h => h) (Or.inl ⟨by rfl, ?_⟩) (by assumption) ?_
          · intro wX hSw
            try dsimp only at hSw
            go_simp
            try exact IntWalk.i64_in _ (by omega)
          try simp only [Act.put, List.setIfInBounds_toArray, List.set_cons_zero, List.set_cons_succ]
          refine wpAnyH_take (i := 11) (oi := { dst := some 87, op := Op.load 28 (Operand.tmp 86), type := 28, pos := _, after := _, guard := some (9, false) }) (v := .slice (some ⟨gb, go, none⟩) sl.length gc) rfl (by kernel_rfl) (by kernel_rfl) (by kernel_rfl) (fun _ _ _ h => h) (Or.inl ⟨by rfl, ?_⟩) (by assumption) ?_
          · intro wX hSw
            try dsimp only at hSw
            go_simp
            try exact IntWalk.i64_in _ (by omega)
          try simp only [Act.put, List.setIfInBounds_toArray, List.set_cons_zero, List.set_cons_succ]
          refine wpAnyH_take (i := 12) (oi := { dst := some 88, op := Op.move (Operand.tmp 9), type := 3, pos := _, after := _, guard := some (9, false) }) (v := .int .i64 (i : Int)) rfl (by kernel_rfl) (by kernel_rfl) (by kernel_rfl) (fun _ _ _ h => h) (Or.inl ⟨by rfl, ?_⟩) (by assumption) ?_
          · intro wX hSw
            try dsimp only at hSw
            go_simp
            try exact IntWalk.i64_in _ (by omega)
          try simp only [Act.put, List.setIfInBounds_toArray, List.set_cons_zero, List.set_cons_succ]
          refine wpAnyH_take (i := 13) (oi := { dst := some 89, op := Op.indexAddr 28 (Operand.tmp 87) (Operand.tmp 88), type := 0, pos := _, after := _, guard := some (9, false) }) (v := .pointer (some ⟨gb, go + i * 7, none⟩)) rfl (by kernel_rfl) (by kernel_rfl) (by kernel_rfl) (fun _ _ _ h => h) (Or.inl ⟨by rfl, ?_⟩) (by assumption) ?_
          · intro wX hSw
            try dsimp only at hSw
            go_simp
            try exact IntWalk.i64_in _ (by omega)
          try simp only [Act.put, List.setIfInBounds_toArray, List.set_cons_zero, List.set_cons_succ]
          refine wpAnyH_take (i := 14) (oi := { dst := some 90, op := Op.fieldAddr 50 (Operand.tmp 89) 1, type := 0, pos := _, after := _, guard := some (9, false) }) (v := .pointer (some ⟨gb, go + i * 7 + 1, none⟩)) rfl (by kernel_rfl) (by kernel_rfl) (by kernel_rfl) (fun _ _ _ h => h) (Or.inl ⟨by rfl, ?_⟩) (by assumption) ?_
          · intro wX hSw
            try dsimp only at hSw
            go_simp
            try exact IntWalk.i64_in _ (by omega)
          try simp only [Act.put, List.setIfInBounds_toArray, List.set_cons_zero, List.set_cons_succ]
          refine wpAnyH_take (i := 15) (oi := { dst := some 91, op := Op.load 3 (Operand.tmp 90), type := 3, pos := _, after := _, guard := some (9, false) }) (v := .int .i64 ed) rfl (by kernel_rfl) (by kernel_rfl) (by kernel_rfl) (fun _ _ _ h => h) (Or.inl ⟨by rfl, ?_⟩) (by assumption) ?_
          · intro wX hSw
            try dsimp only at hSw
            go_simp
            try exact IntWalk.i64_in _ (by omega)
          try simp only [Act.put, List.setIfInBounds_toArray, List.set_cons_zero, List.set_cons_succ]
          refine wpAnyH_take (i := 16) (oi := { dst := some 92, op := Op.fieldAddr 50 (Operand.tmp 6) 3, type := 0, pos := _, after := _, guard := some (9, false) }) (v := .pointer (some ⟨(w1.heap.size + 1 + 1), 3, none⟩)) rfl (by kernel_rfl) (by kernel_rfl) (by kernel_rfl) (fun _ _ _ h => h) (Or.inl ⟨by rfl, ?_⟩) (by assumption) ?_
          · intro wX hSw
            try dsimp only at hSw
            go_simp
            try exact IntWalk.i64_in _ (by omega)
          try simp only [Act.put, List.setIfInBounds_toArray, List.set_cons_zero, List.set_cons_succ]
          refine wpAnyH_take (i := 17) (oi := { dst := some 93, op := Op.load 3 (Operand.tmp 92), type := 3, pos := _, after := _, guard := some (9, false) }) (v := .int .i64 ed) rfl (by kernel_rfl) (by kernel_rfl) (by kernel_rfl) (fun _ _ _ h => h) (Or.inl ⟨by rfl, ?_⟩) (by assumption) ?_
          · intro wX hSw
            try dsimp only at hSw
            go_simp
            try exact IntWalk.i64_in _ (by omega)
          try simp only [Act.put, List.setIfInBounds_toArray, List.set_cons_zero, List.set_cons_succ]
          refine wpAnyH_take (i := 18) (oi := { dst := some 94, op := Op.binOp BinOp.neq 3 (Operand.tmp 91) (Operand.tmp 93) 3, type := 4, pos := _, after := _, guard := some (9, false) }) (v := .bool false) rfl (by kernel_rfl) (by kernel_rfl) (by kernel_rfl) (fun _ _ _ h => h) (Or.inl ⟨by rfl, ?_⟩) (by assumption) ?_
          · intro wX hSw
            try dsimp only at hSw
            go_simp
            try exact IntWalk.i64_in _ (by omega)
          try simp only [Act.put, List.setIfInBounds_toArray, List.set_cons_zero, List.set_cons_succ]
          refine wpAnyH_take (i := 19) (oi := { dst := some 95, op := Op.pick (Operand.tmp 85) (Operand.const (Value.bool true)) (Operand.tmp 94), type := 4, pos := _, after := _, guard := none }) (v := .bool false) rfl (by kernel_rfl) (by kernel_rfl) (by kernel_rfl) (fun _ _ _ h => h) (Or.inl ⟨by rfl, ?_⟩) (by assumption) ?_
          · intro wX hSw
            try dsimp only at hSw
            go_simp
            try exact IntWalk.i64_in _ (by omega)
          try simp only [Act.put, List.setIfInBounds_toArray, List.set_cons_zero, List.set_cons_succ]
          refine wpAnyH_take (i := 20) (oi := { dst := some 96, op := Op.move (Operand.tmp 95), type := 4, pos := _, after := _, guard := none }) (v := .bool false) rfl (by kernel_rfl) (by kernel_rfl) (by kernel_rfl) (fun _ _ _ h => h) (Or.inl ⟨by rfl, ?_⟩) (by assumption) ?_
          · intro wX hSw
            try dsimp only at hSw
            go_simp
            try exact IntWalk.i64_in _ (by omega)
          try simp only [Act.put, List.setIfInBounds_toArray, List.set_cons_zero, List.set_cons_succ]
          refine wpAnyH_take (i := 21) (oi := { dst := some 97, op := Op.fieldAddr 54 (Operand.tmp 7) 1, type := 0, pos := _, after := _, guard := some (20, false) }) (v := .pointer (some ⟨w2.heap.size, 3, none⟩)) rfl (by kernel_rfl) (by kernel_rfl) (by kernel_rfl) (fun _ _ _ h => h) (Or.inl ⟨by rfl, ?_⟩) (by assumption) ?_
          · intro wX hSw
            try dsimp only at hSw
            go_simp
            try exact IntWalk.i64_in _ (by omega)
          try simp only [Act.put, List.setIfInBounds_toArray, List.set_cons_zero, List.set_cons_succ]
          refine wpAnyH_take (i := 22) (oi := { dst := some 98, op := Op.load 28 (Operand.tmp 97), type := 28, pos := _, after := _, guard := some (20, false) }) (v := .slice (some ⟨gb, go, none⟩) sl.length gc) rfl (by kernel_rfl) (by kernel_rfl) (by kernel_rfl) (fun _ _ _ h => h) (Or.inl ⟨by rfl, ?_⟩) (by assumption) ?_
          · intro wX hSw
            try dsimp only at hSw
            go_simp
            try exact IntWalk.i64_in _ (by omega)
          try simp only [Act.put, List.setIfInBounds_toArray, List.set_cons_zero, List.set_cons_succ]
          refine wpAnyH_take (i := 23) (oi := { dst := some 99, op := Op.move (Operand.tmp 9), type := 3, pos := _, after := _, guard := some (20, false) }) (v := .int .i64 (i : Int)) rfl (by kernel_rfl) (by kernel_rfl) (by kernel_rfl) (fun _ _ _ h => h) (Or.inl ⟨by rfl, ?_⟩) (by assumption) ?_
          · intro wX hSw
            try dsimp only at hSw
            go_simp
            try exact IntWalk.i64_in _ (by omega)
          try simp only [Act.put, List.setIfInBounds_toArray, List.set_cons_zero, List.set_cons_succ]
          refine wpAnyH_take (i := 24) (oi := { dst := some 100, op := Op.indexAddr 28 (Operand.tmp 98) (Operand.tmp 99), type := 0, pos := _, after := _, guard := some (20, false) }) (v := .pointer (some ⟨gb, go + i * 7, none⟩)) rfl (by kernel_rfl) (by kernel_rfl) (by kernel_rfl) (fun _ _ _ h => h) (Or.inl ⟨by rfl, ?_⟩) (by assumption) ?_
          · intro wX hSw
            try dsimp only at hSw
            go_simp
            try exact IntWalk.i64_in _ (by omega)
          try simp only [Act.put, List.setIfInBounds_toArray, List.set_cons_zero, List.set_cons_succ]
          refine wpAnyH_take (i := 25) (oi := { dst := some 101, op := Op.fieldAddr 50 (Operand.tmp 100) 2, type := 0, pos := _, after := _, guard := some (20, false) }) (v := .pointer (some ⟨gb, go + i * 7 + 2, none⟩)) rfl (by kernel_rfl) (by kernel_rfl) (by kernel_rfl) (fun _ _ _ h => h) (Or.inl ⟨by rfl, ?_⟩) (by assumption) ?_
          · intro wX hSw
            try dsimp only at hSw
            go_simp
            try exact IntWalk.i64_in _ (by omega)
          try simp only [Act.put, List.setIfInBounds_toArray, List.set_cons_zero, List.set_cons_succ]
          refine wpAnyH_take (i := 26) (oi := { dst := some 102, op := Op.load 3 (Operand.tmp 101), type := 3, pos := _, after := _, guard := some (20, false) }) (v := .int .i64 (s.q + (i : Int))) rfl (by kernel_rfl) (by kernel_rfl) (by kernel_rfl) (fun _ _ _ h => h) (Or.inl ⟨by rfl, ?_⟩) (by assumption) ?_
          · intro wX hSw
            try dsimp only at hSw
            go_simp
            try exact IntWalk.i64_in _ (by omega)
          try simp only [Act.put, List.setIfInBounds_toArray, List.set_cons_zero, List.set_cons_succ]
          refine wpAnyH_take (i := 27) (oi := { dst := some 103, op := Op.fieldAddr 48 (Operand.tmp 5) 1, type := 0, pos := _, after := _, guard := some (20, false) }) (v := .pointer (some ⟨(w1.heap.size + 1), 1, none⟩)) rfl (by kernel_rfl) (by kernel_rfl) (by kernel_rfl) (fun _ _ _ h => h) (Or.inl ⟨by rfl, ?_⟩) (by assumption) ?_
          · intro wX hSw
            try dsimp only at hSw
            go_simp
            try exact IntWalk.i64_in _ (by omega)
          try simp only [Act.put, List.setIfInBounds_toArray, List.set_cons_zero, List.set_cons_succ]
          refine wpAnyH_take (i := 28) (oi := { dst := some 104, op := Op.load 3 (Operand.tmp 103), type := 3, pos := _, after := _, guard := some (20, false) }) (v := .int .i64 s.q) rfl (by kernel_rfl) (by kernel_rfl) (by kernel_rfl) (fun _ _ _ h => h) (Or.inl ⟨by rfl, ?_⟩) (by assumption) ?_
          · intro wX hSw
            try dsimp only at hSw
            go_simp
            try exact IntWalk.i64_in _ (by omega)
          try simp only [Act.put, List.setIfInBounds_toArray, List.set_cons_zero, List.set_cons_succ]
          refine wpAnyH_take (i := 29) (oi := { dst := some 105, op := Op.move (Operand.tmp 9), type := 3, pos := _, after := _, guard := some (20, false) }) (v := .int .i64 (i : Int)) rfl (by kernel_rfl) (by kernel_rfl) (by kernel_rfl) (fun _ _ _ h => h) (Or.inl ⟨by rfl, ?_⟩) (by assumption) ?_
          · intro wX hSw
            try dsimp only at hSw
            go_simp
            try exact IntWalk.i64_in _ (by omega)
          try simp only [Act.put, List.setIfInBounds_toArray, List.set_cons_zero, List.set_cons_succ]
          refine wpAnyH_take (i := 30) (oi := { dst := some 106, op := Op.binOp BinOp.add 3 (Operand.tmp 104) (Operand.tmp 105) 3, type := 3, pos := _, after := _, guard := some (20, false) }) (v := .int .i64 (s.q + (i : Int))) rfl (by kernel_rfl) (by kernel_rfl) (by kernel_rfl) (fun _ _ _ h => h) (Or.inl ⟨by rfl, ?_⟩) (by assumption) ?_
          · intro wX hSw
            try dsimp only at hSw
            go_simp
            try exact IntWalk.i64_in _ (by omega)
          try simp only [Act.put, List.setIfInBounds_toArray, List.set_cons_zero, List.set_cons_succ]
          refine wpAnyH_take (i := 31) (oi := { dst := some 107, op := Op.binOp BinOp.neq 3 (Operand.tmp 102) (Operand.tmp 106) 3, type := 4, pos := _, after := _, guard := some (20, false) }) (v := .bool false) rfl (by kernel_rfl) (by kernel_rfl) (by kernel_rfl) (fun _ _ _ h => h) (Or.inl ⟨by rfl, ?_⟩) (by assumption) ?_
          · intro wX hSw
            try dsimp only at hSw
            go_simp
            try exact IntWalk.i64_in _ (by omega)
          try simp only [Act.put, List.setIfInBounds_toArray, List.set_cons_zero, List.set_cons_succ]
          refine wpAnyH_take (i := 32) (oi := { dst := some 108, op := Op.pick (Operand.tmp 96) (Operand.const (Value.bool true)) (Operand.tmp 107), type := 4, pos := _, after := _, guard := none }) (v := .bool false) rfl (by kernel_rfl) (by kernel_rfl) (by kernel_rfl) (fun _ _ _ h => h) (Or.inl ⟨by rfl, ?_⟩) (by assumption) ?_
          · intro wX hSw
            try dsimp only at hSw
            go_simp
            try exact IntWalk.i64_in _ (by omega)
          try simp only [Act.put, List.setIfInBounds_toArray, List.set_cons_zero, List.set_cons_succ]
          refine wpAnyH_take (i := 33) (oi := { dst := some 109, op := Op.move (Operand.tmp 108), type := 4, pos := _, after := _, guard := none }) (v := .bool false) rfl (by kernel_rfl) (by kernel_rfl) (by kernel_rfl) (fun _ _ _ h => h) (Or.inl ⟨by rfl, ?_⟩) (by assumption) ?_
          · intro wX hSw
            try dsimp only at hSw
            go_simp
            try exact IntWalk.i64_in _ (by omega)
          try simp only [Act.put, List.setIfInBounds_toArray, List.set_cons_zero, List.set_cons_succ]
          refine wpAnyH_take (i := 34) (oi := { dst := some 110, op := Op.fieldAddr 54 (Operand.tmp 7) 1, type := 0, pos := _, after := _, guard := some (33, false) }) (v := .pointer (some ⟨w2.heap.size, 3, none⟩)) rfl (by kernel_rfl) (by kernel_rfl) (by kernel_rfl) (fun _ _ _ h => h) (Or.inl ⟨by rfl, ?_⟩) (by assumption) ?_
          · intro wX hSw
            try dsimp only at hSw
            go_simp
            try exact IntWalk.i64_in _ (by omega)
          try simp only [Act.put, List.setIfInBounds_toArray, List.set_cons_zero, List.set_cons_succ]
          refine wpAnyH_take (i := 35) (oi := { dst := some 111, op := Op.load 28 (Operand.tmp 110), type := 28, pos := _, after := _, guard := some (33, false) }) (v := .slice (some ⟨gb, go, none⟩) sl.length gc) rfl (by kernel_rfl) (by kernel_rfl) (by kernel_rfl) (fun _ _ _ h => h) (Or.inl ⟨by rfl, ?_⟩) (by assumption) ?_
          · intro wX hSw
            try dsimp only at hSw
            go_simp
            try exact IntWalk.i64_in _ (by omega)
          try simp only [Act.put, List.setIfInBounds_toArray, List.set_cons_zero, List.set_cons_succ]
          refine wpAnyH_take (i := 36) (oi := { dst := some 112, op := Op.move (Operand.tmp 9), type := 3, pos := _, after := _, guard := some (33, false) }) (v := .int .i64 (i : Int)) rfl (by kernel_rfl) (by kernel_rfl) (by kernel_rfl) (fun _ _ _ h => h) (Or.inl ⟨by rfl, ?_⟩) (by assumption) ?_
          · intro wX hSw
            try dsimp only at hSw
            go_simp
            try exact IntWalk.i64_in _ (by omega)
          try simp only [Act.put, List.setIfInBounds_toArray, List.set_cons_zero, List.set_cons_succ]
          refine wpAnyH_take (i := 37) (oi := { dst := some 113, op := Op.indexAddr 28 (Operand.tmp 111) (Operand.tmp 112), type := 0, pos := _, after := _, guard := some (33, false) }) (v := .pointer (some ⟨gb, go + i * 7, none⟩)) rfl (by kernel_rfl) (by kernel_rfl) (by kernel_rfl) (fun _ _ _ h => h) (Or.inl ⟨by rfl, ?_⟩) (by assumption) ?_
          · intro wX hSw
            try dsimp only at hSw
            go_simp
            try exact IntWalk.i64_in _ (by omega)
          try simp only [Act.put, List.setIfInBounds_toArray, List.set_cons_zero, List.set_cons_succ]
          refine wpAnyH_take (i := 38) (oi := { dst := some 114, op := Op.load 50 (Operand.tmp 113), type := 50, pos := _, after := _, guard := some (33, false) }) (v := .agg #[.int .i64 xt, .int .i64 ed, .int .i64 (s.q + (i : Int)), .int .i64 xd, .int .i64 xk, .int .i64 xv, .int .i64 xg]) rfl (by kernel_rfl) (by kernel_rfl) (by kernel_rfl) (fun _ _ _ h => h) (Or.inl ⟨by rfl, ?_⟩) (by assumption) ?_
          · intro wX hSw
            try dsimp only at hSw
            go_simp
            try exact IntWalk.i64_in _ (by omega)
          try simp only [Act.put, List.setIfInBounds_toArray, List.set_cons_zero, List.set_cons_succ]
          refine wpAnyH_ready (rs := [39]) (by kernel_rfl) (by simp) ?_
          refine AllReadyH.cons (o := { dst := some 115, op := Op.call { callee := Callee.value (Operand.func 27), args := #[Operand.tmp 114], argTypes := #[50] }, type := 4, pos := _, after := _, guard := some (33, false) }) rfl (fun K hK => ?_) AllReadyH.nil
          go_simp
          refine (iOk_any xt ed (s.q + (i : Int)) xd xk xv xg _).mono ?_
          rintro e w5 ⟨hret, hb5⟩
          rw [HOK.out] at hret
          subst hret
          have HQ5 : Hid (w5.cell? ⟨w2.heap.size, 3, none⟩ = some (.slice (some ⟨gb, go, none⟩) sl.length gc) ∧ w5.cell? ⟨gb, go + i * 7, none⟩ = some (.int .i64 xt) ∧ w5.cell? ⟨gb, go + i * 7 + 1, none⟩ = some (.int .i64 ed) ∧ w5.cell? ⟨gb, go + i * 7 + 2, none⟩ = some (.int .i64 (s.q + (i : Int))) ∧ w5.cell? ⟨gb, go + i * 7 + 3, none⟩ = some (.int .i64 xd) ∧ w5.cell? ⟨gb, go + i * 7 + 4, none⟩ = some (.int .i64 xk) ∧ w5.cell? ⟨gb, go + i * 7 + 5, none⟩ = some (.int .i64 xv) ∧ w5.cell? ⟨gb, go + i * 7 + 6, none⟩ = some (.int .i64 xg) ∧ w5.cell? ⟨(w1.heap.size + 1 + 1), 0, none⟩ = some (.int .i64 et) ∧ w5.cell? ⟨(w1.heap.size + 1 + 1), 3, none⟩ = some (.int .i64 ed) ∧ w5.cell? ⟨(w1.heap.size + 1), 1, none⟩ = some (.int .i64 s.q)) := ⟨(hb5.cell (p := ⟨w2.heap.size, 3, none⟩) (by have := HBr.out.size; have := HGB.out; show w2.heap.size < wr.heap.size; omega)).trans (HQ0.out.1), (hb5.cell (p := ⟨gb, go + i * 7, none⟩) (by have := HBr.out.size; have := HGB.out; show gb < wr.heap.size; omega)).trans (HQ0.out.2.1), (hb5.cell (p := ⟨gb, go + i * 7 + 1, none⟩) (by have := HBr.out.size; have := HGB.out; show gb < wr.heap.size; omega)).trans (HQ0.out.2.2.1), (hb5.cell (p := ⟨gb, go + i * 7 + 2, none⟩) (by have := HBr.out.size; have := HGB.out; show gb < wr.heap.size; omega)).trans (HQ0.out.2.2.2.1), (hb5.cell (p := ⟨gb, go + i * 7 + 3, none⟩) (by have := HBr.out.size; have := HGB.out; show gb < wr.heap.size; omega)).trans (HQ0.out.2.2.2.2.1), (hb5.cell (p := ⟨gb, go + i * 7 + 4, none⟩) (by have := HBr.out.size; have := HGB.out; show gb < wr.heap.size; omega)).trans (HQ0.out.2.2.2.2.2.1), (hb5.cell (p := ⟨gb, go + i * 7 + 5, none⟩) (by have := HBr.out.size; have := HGB.out; show gb < wr.heap.size; omega)).trans (HQ0.out.2.2.2.2.2.2.1), (hb5.cell (p := ⟨gb, go + i * 7 + 6, none⟩) (by have := HBr.out.size; have := HGB.out; show gb < wr.heap.size; omega)).trans (HQ0.out.2.2.2.2.2.2.2.1), (hb5.cell (p := ⟨(w1.heap.size + 1 + 1), 0, none⟩) (by have := HBr.out.size; have := HGB.out; show (w1.heap.size + 1 + 1) < wr.heap.size; omega)).trans (HQ0.out.2.2.2.2.2.2.2.2.1), (hb5.cell (p := ⟨(w1.heap.size + 1 + 1), 3, none⟩) (by have := HBr.out.size; have := HGB.out; show (w1.heap.size + 1 + 1) < wr.heap.size; omega)).trans (HQ0.out.2.2.2.2.2.2.2.2.2.1), (hb5.cell (p := ⟨(w1.heap.size + 1), 1, none⟩) (by have := HBr.out.size; have := HGB.out; show (w1.heap.size + 1) < wr.heap.size; omega)).trans (HQ0.out.2.2.2.2.2.2.2.2.2.2)⟩
          have HB5 : Hid (Below W3.heap.size W3 w5) := (HBr.out.drew).trans (hb5.mono HBr.out.size)
          clear hb5
          refine hK.out _ _ HQ5.out (fun hHeld => ?_)
          clear hK K
          try simp only [Act.put, List.setIfInBounds_toArray, List.set_cons_zero, List.set_cons_succ]
          refine wpAnyH_take (i := 40) (oi := { dst := some 116, op := Op.unOp UnOp.not 4 (Operand.tmp 115), type := 4, pos := _, after := _, guard := some (33, false) }) (v := .bool false) rfl (by kernel_rfl) (by kernel_rfl) (by kernel_rfl) (fun _ _ _ h => h) (Or.inl ⟨by rfl, ?_⟩) (by assumption) ?_
          · intro wX hSw
            try dsimp only at hSw
            go_simp
            try exact IntWalk.i64_in _ (by omega)
          try simp only [Act.put, List.setIfInBounds_toArray, List.set_cons_zero, List.set_cons_succ]
          refine wpAnyH_take (i := 41) (oi := { dst := some 117, op := Op.pick (Operand.tmp 109) (Operand.const (Value.bool true)) (Operand.tmp 116), type := 4, pos := _, after := _, guard := none }) (v := .bool false) rfl (by kernel_rfl) (by kernel_rfl) (by kernel_rfl) (fun _ _ _ h => h) (Or.inl ⟨by rfl, ?_⟩) (by assumption) ?_
          · intro wX hSw
            try dsimp only at hSw
            go_simp
            try exact IntWalk.i64_in _ (by omega)
          try simp only [Act.put, List.setIfInBounds_toArray, List.set_cons_zero, List.set_cons_succ]
          refine wpAnyH_done (by kernel_rfl) ?_ _
          clear hHeld
          go_wp2
          go_roundw
          case rel => exact ⟨i + 1, by omega, by go_num, HB5.out⟩
          case measure => simp [intOf]; omega
        · obtain rfl : i = sl.length := by omega
          clear hBr
          obtain ⟨W4, hW4⟩ : ∃ W4, W4 = wr := ⟨wr, rfl⟩
          go_wp2
          clear f3 f4
          subst hW4
          go_loopw [10] (fun i wr => ∃ k : Nat, k ≤ xl.length ∧ i = .int .i64 k ∧ Below W3.heap.size W3 wr) (fun i _ => xl.length - (intOf i).toNat)
          case atStart => exact ⟨0, Nat.zero_le _, rfl, HBr.out⟩
          case round =>
            clear HBr KFr
            obtain ⟨i, hi, rfl, hBr⟩ := hrel
            have HBr : Hid (Below W3.heap.size W3 wr) := hBr
            have KFr : Hid (Bk wr w2.heap.size 54 #[.slice fa 2 fc, .int .i64 (s.q + (sl.length : Int)), .int .i64 sd, .slice ga sl.length gc, .slice ha xl.length hc, .int .i64 (-1)]) := KF.out.below hBr
            have f4 := KFr.out.cell (i := 4) rfl
            by_cases hlt2 : i < xl.length
            · have hli : (i : Int) < (xl.length : Int) := by omega
              obtain ⟨hlen, a9, c9, he9, _, _, hr9⟩ := HX3.out
              obtain ⟨ha9, hc9⟩ : ha = a9 ∧ hc = c9 := by simpa using he9
              subst ha9 hc9
              obtain ⟨gb, hga, _, hgb, hgc⟩ := hr9.resolve_left (by omega)
              subst hga
              have c0 := (hgc (i * 3) (by omega)).1
              have c1 := (hgc (i * 3 + 1) (by omega)).1
              rw [show (cellsX xl)[i * 3]? = some (.int .i64 (xAt xl i).t) from (by (have h := cellsX_get xl i 0 hlt2 (by omega); rw [Nat.add_zero] at h; rw [h]; rfl))] at c0
              rw [show (cellsX xl)[i * 3 + 1]? = some (.int .i64 (xAt xl i).l) from (by (have h := cellsX_get xl i 1 hlt2 (by omega); rw [h]; rfl))] at c1
              have d0 := (hBr.cell (p := ⟨gb, i * 3, none⟩) hgb).trans c0
              have d1 := (hBr.cell (p := ⟨gb, i * 3 + 1, none⟩) hgb).trans c1
              obtain ⟨y0, y1⟩ := HXX.out i hlt2
              rw [y0] at d0
              rw [y1] at d1
              have KEr := KE3.out.below hBr
              have HQ0 : Hid (wr.drew.cell? ⟨w2.heap.size, 4, none⟩ = some (.slice (some ⟨gb, 0, none⟩) xl.length hc) ∧ wr.drew.cell? ⟨gb, i * 3, none⟩ = some (.int .i64 et) ∧ wr.drew.cell? ⟨gb, i * 3 + 1, none⟩ = some (.int .i64 ed) ∧ wr.drew.cell? ⟨(w1.heap.size + 1 + 1), 0, none⟩ = some (.int .i64 et) ∧ wr.drew.cell? ⟨(w1.heap.size + 1 + 1), 3, none⟩ = some (.int .i64 ed)) := ⟨f4, d0, d1, KEr.cell rfl, KEr.cell rfl⟩
              clear hBr c0 c1 d0 d1 y0 y1 KEr hgc hr9 he9 hlen
              go_wp2_with fail
              clear f4
              refine wp_region_held_drew (S := fun W => W.cell? ⟨w2.heap.size, 4, none⟩ = some (.slice (some ⟨gb, 0, none⟩) xl.length hc) ∧ W.cell? ⟨gb, i * 3, none⟩ = some (.int .i64 et) ∧ W.cell? ⟨gb, i * 3 + 1, none⟩ = some (.int .i64 ed) ∧ W.cell? ⟨(w1.heap.size + 1 + 1), 0, none⟩ = some (.int .i64 et) ∧ W.cell? ⟨(w1.heap.size + 1 + 1), 3, none⟩ = some (.int .i64 ed)) (by kernel_rfl) HQ0.out (fun hHeld => ?_)
              refine wpAnyH_take (i := 0) (oi := { dst := some 125, op := Op.fieldAddr 54 (Operand.tmp 7) 2, type := 0, pos := _, after := _, guard := none }) (v := .pointer (some ⟨w2.heap.size, 4, none⟩)) rfl (by kernel_rfl) (by kernel_rfl) (by kernel_rfl) (fun _ _ _ h => h) (Or.inl ⟨by rfl, ?_⟩) (by assumption) ?_
              · intro wX hSw
                try dsimp only at hSw
                go_simp
                try exact IntWalk.i64_in _ (by omega)
              try simp only [Act.put, List.setIfInBounds_toArray, List.set_cons_zero, List.set_cons_succ]
              refine wpAnyH_take (i := 1) (oi := { dst := some 126, op := Op.load 29 (Operand.tmp 125), type := 29, pos := _, after := _, guard := none }) (v := .slice (some ⟨gb, 0, none⟩) xl.length hc) rfl (by kernel_rfl) (by kernel_rfl) (by kernel_rfl) (fun _ _ _ h => h) (Or.inl ⟨by rfl, ?_⟩) (by assumption) ?_
              · intro wX hSw
                try dsimp only at hSw
                go_simp
                try exact IntWalk.i64_in _ (by omega)
              try simp only [Act.put, List.setIfInBounds_toArray, List.set_cons_zero, List.set_cons_succ]
              refine wpAnyH_take (i := 2) (oi := { dst := some 127, op := Op.move (Operand.tmp 10), type := 3, pos := _, after := _, guard := none }) (v := .int .i64 (i : Int)) rfl (by kernel_rfl) (by kernel_rfl) (by kernel_rfl) (fun _ _ _ h => h) (Or.inl ⟨by rfl, ?_⟩) (by assumption) ?_
              · intro wX hSw
                try dsimp only at hSw
                go_simp
                try exact IntWalk.i64_in _ (by omega)
              try simp only [Act.put, List.setIfInBounds_toArray, List.set_cons_zero, List.set_cons_succ]
              refine wpAnyH_take (i := 3) (oi := { dst := some 128, op := Op.indexAddr 29 (Operand.tmp 126) (Operand.tmp 127), type := 0, pos := _, after := _, guard := none }) (v := .pointer (some ⟨gb, i * 3, none⟩)) rfl (by kernel_rfl) (by kernel_rfl) (by kernel_rfl) (fun _ _ _ h => h) (Or.inl ⟨by rfl, ?_⟩) (by assumption) ?_
              · intro wX hSw
                try dsimp only at hSw
                go_simp
                try exact IntWalk.i64_in _ (by omega)
              try simp only [Act.put, List.setIfInBounds_toArray, List.set_cons_zero, List.set_cons_succ]
              refine wpAnyH_take (i := 4) (oi := { dst := some 129, op := Op.fieldAddr 61 (Operand.tmp 128) 0, type := 0, pos := _, after := _, guard := none }) (v := .pointer (some ⟨gb, i * 3, none⟩)) rfl (by kernel_rfl) (by kernel_rfl) (by kernel_rfl) (fun _ _ _ h => h) (Or.inl ⟨by rfl, ?_⟩) (by assumption) ?_
              · intro wX hSw
                try dsimp only at hSw
                go_simp
                try exact IntWalk.i64_in _ (by omega)
              try simp only [Act.put, List.setIfInBounds_toArray, List.set_cons_zero, List.set_cons_succ]
              refine wpAnyH_take (i := 5) (oi := { dst := some 130, op := Op.load 3 (Operand.tmp 129), type := 3, pos := _, after := _, guard := none }) (v := .int .i64 et) rfl (by kernel_rfl) (by kernel_rfl) (by kernel_rfl) (fun _ _ _ h => h) (Or.inl ⟨by rfl, ?_⟩) (by assumption) ?_
              · intro wX hSw
                try dsimp only at hSw
                go_simp
                try exact IntWalk.i64_in _ (by omega)
              try simp only [Act.put, List.setIfInBounds_toArray, List.set_cons_zero, List.set_cons_succ]
              refine wpAnyH_take (i := 6) (oi := { dst := some 131, op := Op.fieldAddr 50 (Operand.tmp 6) 0, type := 0, pos := _, after := _, guard := none }) (v := .pointer (some ⟨(w1.heap.size + 1 + 1), 0, none⟩)) rfl (by kernel_rfl) (by kernel_rfl) (by kernel_rfl) (fun _ _ _ h => h) (Or.inl ⟨by rfl, ?_⟩) (by assumption) ?_
              · intro wX hSw
                try dsimp only at hSw
                go_simp
                try exact IntWalk.i64_in _ (by omega)
              try simp only [Act.put, List.setIfInBounds_toArray, List.set_cons_zero, List.set_cons_succ]
              refine wpAnyH_take (i := 7) (oi := { dst := some 132, op := Op.load 3 (Operand.tmp 131), type := 3, pos := _, after := _, guard := none }) (v := .int .i64 et) rfl (by kernel_rfl) (by kernel_rfl) (by kernel_rfl) (fun _ _ _ h => h) (Or.inl ⟨by rfl, ?_⟩) (by assumption) ?_
              · intro wX hSw
                try dsimp only at hSw
                go_simp
                try exact IntWalk.i64_in _ (by omega)
              try simp only [Act.put, List.setIfInBounds_toArray, List.set_cons_zero, List.set_cons_succ]
              refine wpAnyH_take (i := 8) (oi := { dst := some 133, op := Op.binOp BinOp.neq 3 (Operand.tmp 130) (Operand.tmp 132) 3, type := 4, pos := _, after := _, guard := none }) (v := .bool false) rfl (by kernel_rfl) (by kernel_rfl) (by kernel_rfl) (fun _ _ _ h => h) (Or.inl ⟨by rfl, ?_⟩) (by assumption) ?_
              · intro wX hSw
                try dsimp only at hSw
                go_simp
                try exact IntWalk.i64_in _ (by omega)
              try simp only [Act.put, List.setIfInBounds_toArray, List.set_cons_zero, List.set_cons_succ]
              refine wpAnyH_take (i := 9) (oi := { dst := some 134, op := Op.move (Operand.tmp 133), type := 4, pos := _, after := _, guard := none }) (v := .bool false) rfl (by kernel_rfl) (by kernel_rfl) (by kernel_rfl) (fun _ _ _ h => h) (Or.inl ⟨by rfl, ?_⟩) (by assumption) ?_
              · intro wX hSw
                try dsimp only at hSw
                go_simp
                try exact IntWalk.i64_in _ (by omega)
              try simp only [Act.put, List.setIfInBounds_toArray, List.set_cons_zero, List.set_cons_succ]
              refine wpAnyH_take (i := 10) (oi := { dst := some 135, op := Op.fieldAddr 54 (Operand.tmp 7) 2, type := 0, pos := _, after := _, guard := some (9, false) }) (v := .pointer (some ⟨w2.heap.size, 4, none⟩)) rfl (by kernel_rfl) (by kernel_rfl) (by kernel_rfl) (fun _ _ _ h => h) (Or.inl ⟨by rfl, ?_⟩) (by assumption) ?_
              · intro wX hSw
                try dsimp only at hSw
                go_simp
                try exact IntWalk.i64_in _ (by omega)
              try simp only [Act.put, List.setIfInBounds_toArray, List.set_cons_zero, List.set_cons_succ]
              refine wpAnyH_take (i := 11) (oi := { dst := some 136, op := Op.load 29 (Operand.tmp 135), type := 29, pos := _, after := _, guard := some (9, false) }) (v := .slice (some ⟨gb, 0, none⟩) xl.length hc) rfl (by kernel_rfl) (by kernel_rfl) (by kernel_rfl) (fun _ _ _ h => h) (Or.inl ⟨by rfl, ?_⟩) (by assumption) ?_
              · intro wX hSw
                try dsimp only at hSw
                go_simp
                try exact IntWalk.i64_in _ (by omega)
              try simp only [Act.put, List.setIfInBounds_toArray, List.set_cons_zero, List.set_cons_succ]
              refine wpAnyH_take (i := 12) (oi := { dst := some 137, op := Op.move (Operand.tmp 10), type := 3, pos := _, after := _, guard := some (9, false) }) (v := .int .i64 (i : Int)) rfl (by kernel_rfl) (by kernel_rfl) (by kernel_rfl) (fun _ _ _ h => h) (Or.inl ⟨by rfl, ?_⟩) (by assumption) ?_
              · intro wX hSw
                try dsimp only at hSw
                go_simp
                try exact IntWalk.i64_in _ (by omega)
              try simp only [Act.put, List.setIfInBounds_toArray, List.set_cons_zero, List.set_cons_succ]
              refine wpAnyH_take (i := 13) (oi := { dst := some 138, op := Op.indexAddr 29 (Operand.tmp 136) (Operand.tmp 137), type := 0, pos := _, after := _, guard := some (9, false) }) (v := .pointer (some ⟨gb, i * 3, none⟩)) rfl (by kernel_rfl) (by kernel_rfl) (by kernel_rfl) (fun _ _ _ h => h) (Or.inl ⟨by rfl, ?_⟩) (by assumption) ?_
              · intro wX hSw
                try dsimp only at hSw
                go_simp
                try exact IntWalk.i64_in _ (by omega)
              try simp only [Act.put, List.setIfInBounds_toArray, List.set_cons_zero, List.set_cons_succ]
              refine wpAnyH_take (i := 14) (oi := { dst := some 139, op := Op.fieldAddr 61 (Operand.tmp 138) 1, type := 0, pos := _, after := _, guard := some (9, false) }) (v := .pointer (some ⟨gb, i * 3 + 1, none⟩)) rfl (by kernel_rfl) (by kernel_rfl) (by kernel_rfl) (fun _ _ _ h => h) (Or.inl ⟨by rfl, ?_⟩) (by assumption) ?_
              · intro wX hSw
                try dsimp only at hSw
                go_simp
                try exact IntWalk.i64_in _ (by omega)
              try simp only [Act.put, List.setIfInBounds_toArray, List.set_cons_zero, List.set_cons_succ]
              refine wpAnyH_take (i := 15) (oi := { dst := some 140, op := Op.load 3 (Operand.tmp 139), type := 3, pos := _, after := _, guard := some (9, false) }) (v := .int .i64 ed) rfl (by kernel_rfl) (by kernel_rfl) (by kernel_rfl) (fun _ _ _ h => h) (Or.inl ⟨by rfl, ?_⟩) (by assumption) ?_
              · intro wX hSw
                try dsimp only at hSw
                go_simp
                try exact IntWalk.i64_in _ (by omega)
              try simp only [Act.put, List.setIfInBounds_toArray, List.set_cons_zero, List.set_cons_succ]
              refine wpAnyH_take (i := 16) (oi := { dst := some 141, op := Op.fieldAddr 50 (Operand.tmp 6) 3, type := 0, pos := _, after := _, guard := some (9, false) }) (v := .pointer (some ⟨(w1.heap.size + 1 + 1), 3, none⟩)) rfl (by kernel_rfl) (by kernel_rfl) (by kernel_rfl) (fun _ _ _ h => h) (Or.inl ⟨by rfl, ?_⟩) (by assumption) ?_
              · intro wX hSw
                try dsimp only at hSw
                go_simp
                try exact IntWalk.i64_in _ (by omega)
              try simp only [Act.put, List.setIfInBounds_toArray, List.set_cons_zero, List.set_cons_succ]
              refine wpAnyH_take (i := 17) (oi := { dst := some 142, op := Op.load 3 (Operand.tmp 141), type := 3, pos := _, after := _, guard := some (9, false) }) (v := .int .i64 ed) rfl (by kernel_rfl) (by kernel_rfl) (by kernel_rfl) (fun _ _ _ h => h) (Or.inl ⟨by rfl, ?_⟩) (by assumption) ?_
              · intro wX hSw
                try dsimp only at hSw
                go_simp
                try exact IntWalk.i64_in _ (by omega)
              try simp only [Act.put, List.setIfInBounds_toArray, List.set_cons_zero, List.set_cons_succ]
              refine wpAnyH_take (i := 18) (oi := { dst := some 143, op := Op.binOp BinOp.neq 3 (Operand.tmp 140) (Operand.tmp 142) 3, type := 4, pos := _, after := _, guard := some (9, false) }) (v := .bool false) rfl (by kernel_rfl) (by kernel_rfl) (by kernel_rfl) (fun _ _ _ h => h) (Or.inl ⟨by rfl, ?_⟩) (by assumption) ?_
              · intro wX hSw
                try dsimp only at hSw
                go_simp
                try exact IntWalk.i64_in _ (by omega)
              try simp only [Act.put, List.setIfInBounds_toArray, List.set_cons_zero, List.set_cons_succ]
              refine wpAnyH_take (i := 19) (oi := { dst := some 144, op := Op.pick (Operand.tmp 134) (Operand.const (Value.bool true)) (Operand.tmp 143), type := 4, pos := _, after := _, guard := none }) (v := .bool false) rfl (by kernel_rfl) (by kernel_rfl) (by kernel_rfl) (fun _ _ _ h => h) (Or.inl ⟨by rfl, ?_⟩) (by assumption) ?_
              · intro wX hSw
                try dsimp only at hSw
                go_simp
                try exact IntWalk.i64_in _ (by omega)
              try simp only [Act.put, List.setIfInBounds_toArray, List.set_cons_zero, List.set_cons_succ]
              refine wpAnyH_done (by kernel_rfl) ?_ _
              clear hHeld
              go_wp2
              go_roundw
              case rel => exact ⟨i + 1, by omega, by go_num, HBr.out.drew⟩
              case measure => simp [intOf]; omega
            · obtain rfl : i = xl.length := by omega
              obtain ⟨_, a9, c9, he9, _, _, hr9⟩ := HR3.out
              obtain ⟨ha9, hc9⟩ : fa = a9 ∧ fc = c9 := by simpa using he9
              subst ha9 hc9
              obtain ⟨gr, hgr, _, hgr2, hgc⟩ := hr9.resolve_left (by omega)
              subst hgr
              have c0 := (hBr.cell (p := ⟨gr, 0, none⟩) hgr2).trans (hgc 0 (by omega)).1
              have c1 := (hBr.cell (p := ⟨gr, 1, none⟩) hgr2).trans (hgc 1 (by omega)).1
              simp only [intCells, List.map_cons, List.map_nil, List.getElem?_cons_zero, List.getElem?_cons_succ] at c0 c1
              have h0 := KFr.out.cell (i := 0) rfl
              have h1 := KFr.out.cell (i := 1) rfl
              have h2 := KFr.out.cell (i := 2) rfl
              have h3 := KFr.out.cell (i := 3) rfl
              have h4 := KFr.out.cell (i := 4) rfl
              have h5 := KFr.out.cell (i := 5) rfl
              have KSr := KS3.out.below hBr
              have s1 := KSr.cell (i := 1) rfl
              have j0 : (0 : Int) ≤ ra := ra0
              have j1 : ra < 1000 := by omega
              have j2 : (0 : Int) ≤ rb := rb0
              have j3 : rb < 1000 := by omega
              clear hBr KSr hgc hr9 he9
              go_wp2_with fail
              refine (models_any _).mono ?_
              rintro e w5 ⟨rfl, hb⟩
              have HB5 : Hid (Below w.heap.size w w5) := HB1.out.trans (((HB3.out.trans (HBr.out.mono HB3.out.size)).trans (hb.mono (by have := HB3.out.size; have := HBr.out.size; omega))).mono HB1.out.size)
              clear hb c0 c1 s1 h0 h1 h2 h3 h4 h5
              go_wp2
              go_ret
              exact ⟨rfl, HB5.out⟩

set_option maxRecDepth 100000 in
theorem lifted (os : Os) (started : os.Started) (H : Type) (enc : TypeId × Value → H) :
    ReturnsInHanded {} Tryz.checked os 4 .any (Rows.fnHandlesSpec.pre6 enc Tryz.prog Tryz.f4 Rows.fnHandlesRow.domain false) (Rows.fnHandlesSpec.post enc Tryz.prog Tryz.f4 false true false false) := by
  refine returnsInHanded_of_change_sized (C := Tryz.checked) own started (by kernel_rfl) Tryz.func4
    (ChangeSpec.witness6 (enc := enc) (C := Tryz.checked) false ⟨#[], #[.slice none 0 0], []⟩ 8 (by kernel_rfl) (by kernel_rfl) (by kernel_rfl) (by kernel_rfl)) ?_
  intro W base args ds gs before hval0 hW hcnd hsz _
  have hval : ∀ (j : Nat) t v, Tryz.f4.params[j]? = some t → args[j]? = some v → Value.okWide Tryz.prog W .any base t v := hval0
  have hW' := hW
  obtain ⟨p, q, hA0, hV, rfl, hfz, hnd⟩ := hW
  have hA : DataW.TrodAll enc Tryz.prog W 0 (fun _ => true) true Tryz.f4.params.toList args.toList ds p := hA0
  rw [Tryz.params4] at hA hval
  obtain ⟨v0, vs0, d0, ds0, p0, q0, hargs, rfl, rfl, h0, r0⟩ := trodAll_cons hA
  obtain ⟨rfl, rfl, rfl⟩ := trodAll_nil r0
  obtain rfl : args = #[v0] := by cases args; simp_all
  obtain ⟨rfl, rfl⟩ := trodVars_none hV
  have k0 := h0
  have lt0 : ∀ x ∈ p0, x.block < W.heap.size := by obtain ⟨m, hm⟩ := k0; exact DataW.trod_lt m _ _ _ hm
  obtain ⟨a, n, cap, rfl, hn, hcode⟩ := open_code (hval 0 46 v0 rfl rfl) h0 (fun elems spare e => sized_slice hsz (j := 0) (t := 46) (by rw [Tryz.params4]; rfl) (by subst e; rfl) Tryz.underlying46)
  clear hA0 hval0
  refine (walk a n cap W hn hcode).mono fun e W' ⟨he, bel⟩ => ?_
  subst he
  exact ⟨_, rfl, _, _, _, [], _, [], hW', trodAll_mk1 (shut_bool Tryz.underlying4 _), (trodAll_cons_mk (Below.trod laidOut (by kernel_rfl) (of_decide_eq_true (by kernel_rfl)) k0 bel lt0) trodAll_mk0), rfl, bel.frame _, fun h => by cases h⟩

theorem over : Rows.fnHandlesRow.holds Tryz.pinned (OpenSpec.ofChange Rows.fnHandlesSpec) :=
  OpenClaim.holds_of_wide 4 Tryz.f4 rfl rfl rfl rfl rfl rfl rfl ⟨rfl, rfl, rfl, rfl, rfl⟩ rfl rfl rfl rfl rfl (by as_aux_lemma => kernel_rfl) Tryz.func4 ClHandles.closed
    (by as_aux_lemma => exact of_decide_eq_true (by kernel_rfl)) (by unfold Func.isWrapper; first | (rw [if_pos (by decide +kernel)]; kernel_rfl) | (rw [if_neg (by decide +kernel)]; exact ⟨rfl, rfl⟩))
    (fun os started H enc _ => lifted os started H enc)
end Go.Proofs.YtmpoffepoafblaaGreat.LawHandles
namespace Go.Proofs.YtmpoffepoafblaaGreat
theorem fnHandles_holds : Rows.FnHandlesSaid := LawHandles.over
#print axioms fnHandles_holds
end Go.Proofs.YtmpoffepoafblaaGreat
