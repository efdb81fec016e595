/- FnSequences: its walk. -/
import Derived.Test.YtbljfphdghfkfaaGreatDoorSequencesCardG33
import Derived.Test.YtbljfphdghfkfaaGreatDoorSequencesCardG34
import Derived.Test.YtbljfphdghfkfaaGreatDoorSequencesCardG45
import Derived.Test.YtbljfphdghfkfaaGreatDoorSequencesCardLHIh
import Derived.Test.YtbljfphdghfkfaaGreatDoorSequencesCardG48
import Derived.Test.YtbljfphdghfkfaaGreatDoorSequencesCardLNOpen
import Derived.Deep.Cut
namespace Go.Proofs.YtbljfphdghfkfaaGreatDoor.LawSqn
open Go.ChangeShapes Go.WideShapes Go.ChangeAt Go.RowKit Go.Proofs.YtbljfphdghfkfaaGreatDoor
theorem big_yes (a : Option Addr) (n cap : Nat) (w : World) (h : 60000 < n) : Calls Tryz.prog 16 #[.slice a n cap] w fun e w' => e = .returned (.bool true) ∧ w' = w := by
 refine (big_any a n cap w).mono ?_
 rintro e w' ⟨rfl, hw⟩
 exact ⟨ret_bool (decide_eq_true (by omega)), hw⟩
theorem big_no (a : Option Addr) (n cap : Nat) (w : World) (h : ¬ 60000 < n) : Calls Tryz.prog 16 #[.slice a n cap] w fun e w' => e = .returned (.bool false) ∧ w' = w := by
 refine (big_any a n cap w).mono ?_
 rintro e w' ⟨rfl, hw⟩
 exact ⟨ret_bool (decide_eq_false (by omega)), hw⟩
theorem cmp_less {a b : Ev} (ha : a.ok = true) (hb : b.ok = true) (h : a.cmp b < 0) : ∃ z : Int, z < 0 ∧ ∀ W, Calls Tryz.prog 19 #[.agg #[.int .i64 a.t, .int .i64 a.s, .int .i64 a.q, .int .i64 a.d, .int .i64 a.k, .int .i64 a.v, .int .i64 a.g], .agg #[.int .i64 b.t, .int .i64 b.s, .int .i64 b.q, .int .i64 b.d, .int .i64 b.k, .int .i64 b.v, .int .i64 b.g]] W fun e w' => e = .returned (.int .i64 z) ∧ Below W.heap.size W w' := by
 refine ⟨a.cmp b, h, fun W => (sCmp_any _ _ _ _ _ _ _ _ _ _ _ _ _ _ W).mono ?_⟩
 rintro e w' ⟨rfl, hb'⟩
 exact ⟨ret_int (by unfold ecmp; exact if_pos ⟨ha, hb⟩), hb'⟩
theorem isHi_hist {w : World} {x : Value} {R : Hi} (h : IsHi w x R) : IsHistory w x (hyO R) := by
 obtain ⟨a, c, ax, cx, rfl, h1, h2⟩ := h
 exact ⟨_, _, rfl, h1.isD, h2.isD⟩
set_option maxRecDepth 100000 in
set_option maxHeartbeats 64000000 in
theorem walk (ca : Option Addr) (n cap : Nat) (w : World) (hn : n ≤ 140737488351232) (hC : CodeIn w w.heap.size ca n) (htab : Lib.TabIs Tryz.prog w "internal/strconv.uint64pow10" .u64 Lib.pow10Tab) :
  Calls Tryz.prog 4 #[.slice ca n cap] w fun e w' => e = .returned (.bool true) ∧ Below w.heap.size w w' := by
 have HC : Hid (CodeIn w w.heap.size ca n) := hC
 have HT : Hid (Lib.TabIs Tryz.prog w "internal/strconv.uint64pow10" .u64 Lib.pow10Tab) := htab
 clear hC htab
 by_cases hbig : 60000 < n
 ·have HBG : Hid (60000 < n) := hbig
  clear hbig
  go_enter Tryz.func4, Tryz.ntmps4
  go_wp2_with fail
  refine (big_yes ca n cap _ HBG.out).mono ?_
  rintro e w1 ⟨rfl, hw⟩
  have hw' := hw.symm
  clear hw
  subst hw'
  go_wp2_with fail
  refine (big_yes ca n cap _ HBG.out).mono ?_
  rintro e w1 ⟨rfl, hw⟩
  have hw' := hw.symm
  clear hw
  subst hw'
  go_wp2
  go_ret
  exact ⟨rfl, Below.refl _ _⟩
 have HBG : Hid (¬ 60000 < n) := hbig
 clear hbig
 go_enter Tryz.func4, Tryz.ntmps4
 go_wp2_with fail
 refine (big_no ca n cap _ HBG.out).mono ?_
 rintro e w1 ⟨rfl, hw⟩
 have hw' := hw.symm
 clear hw
 subst hw'
 go_wp2_with fail
 refine (models_any _).mono ?_
 rintro e w1 ⟨rfl, hb⟩
 have HB1 : Hid (Below w.heap.size w w1) := hb
 clear hb
 go_wp2_with fail
 refine (drawSeq_any ca n cap _ (by omega) ((HC.out.below HB1.out (Nat.le_refl _)).mono HB1.out.size)).mono ?_
 rintro r w2 ⟨m, xm, xd, l, z, rfl, hM, hTy, hD, hl, hb⟩
 have HB2 : Hid (Below w.heap.size w w2) := HB1.out.trans (hb.mono HB1.out.size)
 have HM2 : Hid (IsM w2 xm m) := hM
 have HD2 : Hid (IsI w2 xd l) := hD
 have HTy : Hid (Tiny m) := hTy
 have HL : Hid (l.length = 4) := hl
 obtain ⟨vi, vh, vs, rfl, ⟨ai, ci, rfl, _⟩, ⟨ah, ch, rfl, _⟩, ⟨ae, ce, rfl, _⟩⟩ := hM
 clear hb hD hTy hl HB1
 obtain ⟨w3, hw3⟩ : ∃ V, w2.alloc (.cells #[.int .i64 m.n, .int .i64 m.s, .slice ai m.i.length ci, .slice ah m.h.length ch, .slice ae m.e.length ce, .int .i64 m.z] 27) = V := ⟨_, rfl⟩
 have hb3 : Below w2.heap.size w2 w3 := hw3 ▸ (Below.refl _ w2).alloc (Nat.le_refl _) _
 have HMB3 : Hid (Bk w3 w2.heap.size 27 #[.int .i64 m.n, .int .i64 m.s, .slice ai m.i.length ci, .slice ah m.h.length ch, .slice ae m.e.length ce, .int .i64 m.z]) := hw3 ▸ Bk.new w2 _ _
 have HB3 : Hid (Below w.heap.size w w3) := HB2.out.trans (hb3.mono HB2.out.size)
 have HM3 : Hid (IsM w3 (.agg #[.int .i64 m.n, .int .i64 m.s, .slice ai m.i.length ci, .slice ah m.h.length ch, .slice ae m.e.length ce, .int .i64 m.z]) m) := HM2.out.below hb3
 have HD3 : Hid (IsI w3 xd l) := HD2.out.below hb3
 have HW3 : Hid (w2.alloc (.cells #[.int .i64 m.n, .int .i64 m.s, .slice ai m.i.length ci, .slice ah m.h.length ch, .slice ae m.e.length ce, .int .i64 m.z] 27) = w3) := hw3
 have p0 := HMB3.out.cell (i := 0) rfl
 have p1 := HMB3.out.cell (i := 1) rfl
 have p2 := HMB3.out.cell (i := 2) rfl
 have p3 := HMB3.out.cell (i := 3) rfl
 have p4 := HMB3.out.cell (i := 4) rfl
 have p5 := HMB3.out.cell (i := 5) rfl
 clear hb3 HB2 HM2 HD2
 go_wp2_with fail
 clear hw3 p0 p1 p2 p3 p4 p5
 refine (iSeq _ _ m l z w3 HTy.out.small (by have := HL.out; omega) HM3.out HD3.out).mono ?_
 rintro r w4 ⟨u, rfl, hb, hH⟩
 have HMB4 : Hid (Bk w4 w2.heap.size 27 #[.int .i64 m.n, .int .i64 m.s, .slice ai m.i.length ci, .slice ah m.h.length ch, .slice ae m.e.length ce, .int .i64 m.z]) := HMB3.out.below hb
 have HB4 : Hid (Below w.heap.size w w4) := HB3.out.trans (hb.mono HB3.out.size)
 have HM4 : Hid (IsM w4 (.agg #[.int .i64 m.n, .int .i64 m.s, .slice ai m.i.length ci, .slice ah m.h.length ch, .slice ae m.e.length ce, .int .i64 m.z]) m) := HM3.out.below hb
 have HD4 : Hid (IsI w4 xd l) := HD3.out.below hb
 obtain ⟨R, hR⟩ : ∃ R, R = seqA m l z := ⟨_, rfl⟩
 rw [← hR] at hH
 have HF : Hid (seqB m l z = true → SqFacts m l z R) := fun h => hR ▸ seq_facts h
 have HZ : Hid (seqB m l z = false → R = zeroH) := fun h => by rw [hR]; unfold seqA; rw [if_neg (by rw [h]; simp)]
 have HI4 : Hid (IsHi w4 u R) := hH.isHi
 obtain ⟨ra, rc, rx, rd, rfl, _⟩ := hH.isHi
 clear hb hR hH HMB3 HB3 HM3 HD3 HW3
 obtain ⟨w5, hw5⟩ : ∃ V, w4.alloc (.cells #[.slice ra R.ev.length rc, .slice rx R.em.length rd, .int .i64 R.k, .bool R.f] 48) = V := ⟨_, rfl⟩
 have hb5 : Below w4.heap.size w4 w5 := hw5 ▸ (Below.refl _ w4).alloc (Nat.le_refl _) _
 have HH5 : Hid (Bk w5 w4.heap.size 48 #[.slice ra R.ev.length rc, .slice rx R.em.length rd, .int .i64 R.k, .bool R.f]) := hw5 ▸ Bk.new w4 _ _
 have HMB5 : Hid (Bk w5 w2.heap.size 27 #[.int .i64 m.n, .int .i64 m.s, .slice ai m.i.length ci, .slice ah m.h.length ch, .slice ae m.e.length ce, .int .i64 m.z]) := HMB4.out.below hb5
 have HB5 : Hid (Below w.heap.size w w5) := HB4.out.trans (hb5.mono HB4.out.size)
 have HM5 : Hid (IsM w5 (.agg #[.int .i64 m.n, .int .i64 m.s, .slice ai m.i.length ci, .slice ah m.h.length ch, .slice ae m.e.length ce, .int .i64 m.z]) m) := HM4.out.below hb5
 have HD5 : Hid (IsI w5 xd l) := HD4.out.below hb5
 have HI5 : Hid (IsHi w5 (.agg #[.slice ra R.ev.length rc, .slice rx R.em.length rd, .int .i64 R.k, .bool R.f]) R) := HI4.out.below hb5
 clear hb5 HMB4 HB4 HM4 HD4 HI4
 cases hok : seqB m l z with
 | false =>
  have hR := HZ.out hok
  clear HZ HF hok HI5
  have r0 := HH5.out.cell (i := 0) rfl
  have r2 := HH5.out.cell (i := 2) rfl
  rw [show R.ev.length = 0 from by rw [hR]; rfl] at r0
  rw [show R.k = 0 from by rw [hR]; rfl] at r2
  clear hR
  go_wp2
  go_ret
  exact ⟨rfl, HB5.out⟩
 | true =>
  have HOK : Hid (seqB m l z = true) := hok
  have FA : Hid (SqFacts m l z R) := HF.out hok
  clear hok HF HZ
  have r0 := HH5.out.cell (i := 0) rfl
  go_wp2_with fail
  clear r0 hw5
  go_loopw [8] (fun i wr => ∃ j : Nat, i = .int .i64 ((j : Int) + 1) ∧ Hid (Below w5.heap.size w5 wr)) (fun i _ => R.ev.length + 1 - (intOf i).toNat)
  case atStart => exact ⟨0, rfl, Below.refl _ _⟩
  case round =>
   obtain ⟨j, rfl, HBr⟩ := hrel
   obtain ⟨hel, hel2⟩ : R.ev.length ≤ 150 ∧ R.em.length ≤ 1200 := ⟨FA.out.el, FA.out.xl⟩
   have r0 := (HH5.out.below HBr.out).cell (i := 0) rfl
   by_cases hlt : j + 1 < R.ev.length
   ·have hj1 : (j : Int) + 1 < (R.ev.length : Int) := by omega
    obtain ⟨_, _, _, _, hag, he5, _⟩ := HI5.out
    simp only [Value.agg.injEq, Array.mk.injEq, List.cons.injEq, Value.slice.injEq, and_true, true_and] at hag
    obtain ⟨⟨rfl, rfl⟩, rfl, rfl⟩ := hag
    obtain ⟨_, _, hsl, _, _, hrow⟩ := he5.below HBr.out
    simp only [Value.slice.injEq, true_and] at hsl
    obtain ⟨rfl, rfl⟩ := hsl
    obtain ⟨eb, eo, rfl, heb, hat⟩ := hrow.resolve_left (fun e => by rw [e] at hlt; simp at hlt)
    obtain ⟨y0, y1, y2, y3, y4, y5, y6⟩ := EvAt.beyond (hat j (by omega)) heb
    obtain ⟨x0, x1, x2, x3, x4, x5, x6⟩ := EvAt.beyond (hat (j + 1) hlt) heb
    have f0 : ∀ p : Beyond wr, p.w.cell? ⟨w4.heap.size, 0, none⟩ = some (.slice (some ⟨eb, eo, none⟩) R.ev.length rc) := fun p => p.cell (HH5.out.below HBr.out).lt r0
    obtain ⟨zc, hzc, hcmp⟩ := cmp_less (FA.out.each j (by omega)).1 (FA.out.each (j + 1) hlt).1 (FA.out.ord j (j + 1) (by omega) hlt)
    have hxt := (FA.out.each (j + 1) hlt).2
    have HCM : Hid (∀ W, Calls Tryz.prog 19 #[.agg #[.int .i64 (evAt R.ev j).t, .int .i64 (evAt R.ev j).s, .int .i64 (evAt R.ev j).q, .int .i64 (evAt R.ev j).d, .int .i64 (evAt R.ev j).k, .int .i64 (evAt R.ev j).v, .int .i64 (evAt R.ev j).g], .agg #[.int .i64 (evAt R.ev (j + 1)).t, .int .i64 (evAt R.ev (j + 1)).s, .int .i64 (evAt R.ev (j + 1)).q, .int .i64 (evAt R.ev (j + 1)).d, .int .i64 (evAt R.ev (j + 1)).k, .int .i64 (evAt R.ev (j + 1)).v, .int .i64 (evAt R.ev (j + 1)).g]] W fun e w' => e = .returned (.int .i64 zc) ∧ Below W.heap.size W w') := hcmp
    have g1 : decide (0 ≤ zc) = false := decide_eq_false (by omega)
    have g2 : decide (z < (evAt R.ev (j + 1)).t) = false := decide_eq_false (by omega)
    have hne : Nonempty (Beyond wr) := ⟨⟨wr, Below.refl _ _⟩⟩
    clear hat hrow he5 hcmp hzc hxt
    go_wp2_with fail
    clear r0
    refine wp_region_beyond (by kernel_rfl) (by kernel_rfl) ?_
    repeat (go_big_quiet_step (first | (go_at_call 19; exact Beyond.of (HCM.out _))))
    refine wpQuiet_nil ?_
    rintro w6 ⟨⟨_, hb6⟩, rfl⟩
    have HB6 : Hid (Below w5.heap.size w5 _) := HBr.out.trans (hb6.mono HBr.out.size)
    clear hb6
    go_wp2
    refine ⟨⟨j + 1, by simp, HB6.out⟩, by simp [intOf]; omega⟩
   ·have hj1 : ¬ (j : Int) + 1 < (R.ev.length : Int) := by omega
    have HM6 : Hid (IsM wr (.agg #[.int .i64 m.n, .int .i64 m.s, .slice ai m.i.length ci, .slice ah m.h.length ch, .slice ae m.e.length ce, .int .i64 m.z]) m) := HM5.out.below HBr.out
    have HD6 : Hid (IsI wr xd l) := HD5.out.below HBr.out
    have HMB6 : Hid (Bk wr w2.heap.size 27 #[.int .i64 m.n, .int .i64 m.s, .slice ai m.i.length ci, .slice ah m.h.length ch, .slice ae m.e.length ce, .int .i64 m.z]) := HMB5.out.below HBr.out
    have HH6 : Hid (Bk wr w4.heap.size 48 #[.slice ra R.ev.length rc, .slice rx R.em.length rd, .int .i64 R.k, .bool R.f]) := HH5.out.below HBr.out
    have HI6 : Hid (IsHi wr (.agg #[.slice ra R.ev.length rc, .slice rx R.em.length rd, .int .i64 R.k, .bool R.f]) R) := HI5.out.below HBr.out
    have HB6 : Hid (Below w.heap.size w wr) := HB5.out.trans (HBr.out.mono HB5.out.size)
    have p0 := HMB6.out.cell (i := 0) rfl
    have p1 := HMB6.out.cell (i := 1) rfl
    have p2 := HMB6.out.cell (i := 2) rfl
    have p3 := HMB6.out.cell (i := 3) rfl
    have p4 := HMB6.out.cell (i := 4) rfl
    have p5 := HMB6.out.cell (i := 5) rfl
    go_wp2_with fail
    clear r0 p0 p1 p2 p3 p4 p5
    refine (iSeq _ _ m l m.z wr HTy.out.small (by have := HL.out; omega) HM6.out HD6.out).mono ?_
    rintro r w7 ⟨u, rfl, hb, hH⟩
    rw [FA.out.end_]
    obtain ⟨R2, hR2⟩ : ∃ R2, R2 = seqA m l m.z := ⟨_, rfl⟩
    have F2 := seq_facts FA.out.end_
    rw [← hR2] at hH F2
    have HBE : Hid (Begins R R2 ∧ R2.ev.length ≤ 2000 ∧ R2.em.length ≤ 2000) := ⟨hR2 ▸ FA.out.all, by have := F2.el; omega, by have := F2.xl; omega⟩
    obtain ⟨sa, sc, sx, sd, rfl, _⟩ := hH.isHi
    obtain ⟨w8, hw8⟩ : ∃ V, w7.alloc (.cells #[.slice sa R2.ev.length sc, .slice sx R2.em.length sd, .int .i64 R2.k, .bool R2.f] 48) = V := ⟨_, rfl⟩
    have hb8 : Below w7.heap.size w7 w8 := hw8 ▸ (Below.refl _ w7).alloc (Nat.le_refl _) _
    have hbw : Below wr.heap.size wr w8 := hb.trans (hb8.mono hb.size)
    have HK8 : Hid (Bk w8 w7.heap.size 48 #[.slice sa R2.ev.length sc, .slice sx R2.em.length sd, .int .i64 R2.k, .bool R2.f]) := hw8 ▸ Bk.new w7 _ _
    have HJ8 : Hid (IsHi w8 (.agg #[.slice sa R2.ev.length sc, .slice sx R2.em.length sd, .int .i64 R2.k, .bool R2.f]) R2) := hH.isHi.below hb8
    have HH8 : Hid (Bk w8 w4.heap.size 48 #[.slice ra R.ev.length rc, .slice rx R.em.length rd, .int .i64 R.k, .bool R.f]) := HH6.out.below hbw
    have HMB8 : Hid (Bk w8 w2.heap.size 27 #[.int .i64 m.n, .int .i64 m.s, .slice ai m.i.length ci, .slice ah m.h.length ch, .slice ae m.e.length ce, .int .i64 m.z]) := HMB6.out.below hbw
    have HM8 : Hid (IsM w8 (.agg #[.int .i64 m.n, .int .i64 m.s, .slice ai m.i.length ci, .slice ah m.h.length ch, .slice ae m.e.length ce, .int .i64 m.z]) m) := HM6.out.below hbw
    have HD8 : Hid (IsI w8 xd l) := HD6.out.below hbw
    have HI8 : Hid (IsHi w8 (.agg #[.slice ra R.ev.length rc, .slice rx R.em.length rd, .int .i64 R.k, .bool R.f]) R) := HI6.out.below hbw
    have HB8 : Hid (Below w.heap.size w w8) := HB6.out.trans (hbw.mono HB6.out.size)
    clear hb hb8 hbw hH F2 hR2 HM6 HD6 HMB6 HH6 HI6 HB6 HBr hel hel2 hj1 hlt HM5 HD5 HMB5 HH5 HI5 HB5
    have r0 := HH8.out.cell (i := 0) rfl
    have s0 := HK8.out.cell (i := 0) rfl
    have r1 := HH8.out.cell (i := 1) rfl
    have s1 := HK8.out.cell (i := 1) rfl
    have r2 := HH8.out.cell (i := 2) rfl
    have s2 := HK8.out.cell (i := 2) rfl
    have r3 := HH8.out.cell (i := 3) rfl
    have s3 := HK8.out.cell (i := 3) rfl
    go_wp2_with fail
    clear hw8 r0 r1 r2 r3 s0 s1 s2 s3
    refine (begins_any _ _ R R2 w8 HBE.out.1 HBE.out.2.1 HBE.out.2.2 HI8.out HJ8.out).mono ?_
    rintro r w9 ⟨rfl, hb⟩
    have HH9 : Hid (Bk w9 w4.heap.size 48 #[.slice ra R.ev.length rc, .slice rx R.em.length rd, .int .i64 R.k, .bool R.f]) := HH8.out.below hb
    have HMB9 : Hid (Bk w9 w2.heap.size 27 #[.int .i64 m.n, .int .i64 m.s, .slice ai m.i.length ci, .slice ah m.h.length ch, .slice ae m.e.length ce, .int .i64 m.z]) := HMB8.out.below hb
    have HM9 : Hid (IsM w9 (.agg #[.int .i64 m.n, .int .i64 m.s, .slice ai m.i.length ci, .slice ah m.h.length ch, .slice ae m.e.length ce, .int .i64 m.z]) m) := HM8.out.below hb
    have HD9 : Hid (IsI w9 xd l) := HD8.out.below hb
    have HI9 : Hid (IsHi w9 (.agg #[.slice ra R.ev.length rc, .slice rx R.em.length rd, .int .i64 R.k, .bool R.f]) R) := HI8.out.below hb
    have HB9 : Hid (Below w.heap.size w w9) := HB8.out.trans (hb.mono HB8.out.size)
    clear hb HH8 HMB8 HM8 HD8 HI8 HB8 HK8 HJ8 HBE
    have r0 := HH9.out.cell (i := 0) rfl
    have r1 := HH9.out.cell (i := 1) rfl
    have r2 := HH9.out.cell (i := 2) rfl
    have r3 := HH9.out.cell (i := 3) rfl
    by_cases hk : R.k < 0
    ·have HKN : Hid (R.k < 0) := hk
     go_wp2_with fail
     clear hk r0 r1 r2 r3
     refine (iTextH _ (hyO R) w9 FA.out.inr (isHi_hist HI9.out) (tab_kept HT.out HB9.out)).mono ?_
     rintro r w10 ⟨y, rfl, ho, hb⟩
     obtain ⟨ya, yc, rfl, _⟩ := ho
     have HH10 : Hid (Bk w10 w4.heap.size 48 #[.slice ra R.ev.length rc, .slice rx R.em.length rd, .int .i64 R.k, .bool R.f]) := HH9.out.below hb
     have HB10 : Hid (Below w.heap.size w w10) := HB9.out.trans (hb.mono HB9.out.size)
     clear hb
     have htx := FA.out.text
     generalize (histR (hyO R)).length = L at htx ⊢
     have r0 := HH10.out.cell (i := 0) rfl
     have r1 := HH10.out.cell (i := 1) rfl
     have r3 := HH10.out.cell (i := 3) rfl
     by_cases hL : 0 < L
     ·have hL2 : decide (0 < L) = true := decide_eq_true hL
      clear htx hL
      go_wp2
      go_ret
      exact ⟨rfl, HB10.out⟩
     ·obtain ⟨z0, z1, z2⟩ := htx.resolve_left hL
      rw [z0] at r0
      rw [z1] at r1
      rw [z2 HKN.out] at r3
      have hL0 : L = 0 := by omega
      subst hL0
      clear htx hL z0 z1 z2
      go_wp2
      go_ret
      exact ⟨rfl, HB10.out⟩
    ·have HKN : Hid (0 ≤ R.k) := (by omega : 0 ≤ R.k)
     go_wp2_with fail
     clear r0 r1 r3
     refine wp_region_held_drew (S := fun W => W.cell? ⟨w4.heap.size, 2, none⟩ = some (.int .i64 R.k)) (by kernel_rfl) (HH9.out.drew.cell (i := 2) rfl) (fun hHeld => ?_)
     clear r2
     refine wpAnyH_take (i := 0) (oi := { dst := some 116, op := Op.move (Operand.tmp 4), type := 23, pos := _, after := _, guard := none }) (v := xd) rfl (by kernel_rfl) (by kernel_rfl) (by kernel_rfl) (fun _ _ _ h => h) (Or.inl ⟨by rfl, ?_⟩) (by assumption) ?_
     ·intro wX hSw
      try dsimp only at hSw
      go_simp
      try exact IntWalk.i64_in _ (by omega)
     try simp only [Act.put, List.setIfInBounds_toArray, List.set_cons_zero, List.set_cons_succ]
     refine wpAnyH_take (i := 1) (oi := { dst := some 117, op := Op.fieldAddr 48 (Operand.tmp 6) 2, type := 0, pos := _, after := _, guard := none }) (v := .pointer (some ⟨w4.heap.size, 2, none⟩)) rfl (by kernel_rfl) (by kernel_rfl) (by kernel_rfl) (fun _ _ _ h => h) (Or.inl ⟨by rfl, ?_⟩) (by assumption) ?_
     ·intro wX hSw
      try dsimp only at hSw
      go_simp
      try exact IntWalk.i64_in _ (by omega)
     try simp only [Act.put, List.setIfInBounds_toArray, List.set_cons_zero, List.set_cons_succ]
     refine wpAnyH_take (i := 2) (oi := { dst := some 118, op := Op.load 3 (Operand.tmp 117), type := 3, pos := _, after := _, guard := none }) (v := .int .i64 R.k) rfl (by kernel_rfl) (by kernel_rfl) (by kernel_rfl) (fun _ _ _ h => h) (Or.inl ⟨by rfl, ?_⟩) (by assumption) ?_
     ·intro wX hSw
      try dsimp only at hSw
      go_simp
      try exact IntWalk.i64_in _ (by omega)
     try simp only [Act.put, List.setIfInBounds_toArray, List.set_cons_zero, List.set_cons_succ]
     refine wpAnyH_take (i := 3) (oi := { dst := some 119, op := Op.move (Operand.tmp 0), type := 22, pos := _, after := _, guard := none }) (v := .slice ca n cap) rfl (by kernel_rfl) (by kernel_rfl) (by kernel_rfl) (fun _ _ _ h => h) (Or.inl ⟨by rfl, ?_⟩) (by assumption) ?_
     ·intro wX hSw
      try dsimp only at hSw
      go_simp
      try exact IntWalk.i64_in _ (by omega)
     try simp only [Act.put, List.setIfInBounds_toArray, List.set_cons_zero, List.set_cons_succ]
     refine wpAnyH_ready (rs := [4]) (by kernel_rfl) (by simp) ?_
     refine AllReadyH.cons (o := { dst := some 120, op := Op.call { callee := Callee.value (Operand.func 23), args := #[Operand.tmp 119, Operand.const (Value.int IntKind.i64 1)], argTypes := #[22, 3] }, type := 3, pos := _, after := _, guard := none }) rfl (fun K hK => ?_) AllReadyH.nil
     go_simp
     refine (at_one ca n cap _ ((HC.out.below HB9.out.drew (Nat.le_refl _)).mono HB9.out.drew.size) (by omega)).mono ?_
     rintro e wa ⟨⟨xa, rfl, hxa0, hxa1⟩, rfl⟩
     refine hK.out _ _ hHeld (fun hHeld => ?_)
     clear hK K
     try simp only [Act.put, List.setIfInBounds_toArray, List.set_cons_zero, List.set_cons_succ]
     have HX : Hid (0 ≤ xa % 2 ∧ xa % 2 ≤ 1) := ⟨by omega, by omega⟩
     refine wpAnyH_take (i := 5) (oi := { dst := some 121, op := Op.binOp BinOp.rem 3 (Operand.tmp 120) (Operand.const (Value.int IntKind.i64 2)) 3, type := 3, pos := _, after := _, guard := none }) (v := .int .i64 (xa % 2)) rfl (by kernel_rfl) (by kernel_rfl) (by kernel_rfl) (fun _ _ _ h => h) (Or.inl ⟨by rfl, ?_⟩) (by assumption) ?_
     ·intro wX hSw
      try dsimp only at hSw
      go_simp
      try exact IntWalk.i64_in _ (by omega)
      try exact Int.tmod_eq_emod_of_nonneg hxa0
     try simp only [Act.put, List.setIfInBounds_toArray, List.set_cons_zero, List.set_cons_succ]
     refine wpAnyH_ready (rs := [6]) (by kernel_rfl) (by simp) ?_
     refine AllReadyH.cons (o := { dst := some 122, op := Op.call { callee := Callee.value (Operand.func 22), args := #[Operand.tmp 116, Operand.tmp 118, Operand.tmp 121], argTypes := #[23, 3, 3] }, type := 56, pos := _, after := _, guard := none }) rfl (fun K hK => ?_) AllReadyH.nil
     go_simp
     obtain ⟨d1, d2, d3, d4, d5⟩ := FA.out.dec HKN.out (xa % 2) HX.out.1 HX.out.2
     refine (sDecide_any xd R.k (xa % 2) l _ (by have := HL.out; omega) (HD9.out.below ((Below.refl _ _).drew))).mono ?_
     rintro e w10 ⟨u, rfl, ho, hb⟩
     rw [d1]
     have hb' : Below w9.heap.size w9 w10 := ((Below.refl _ w9).drew).trans hb
     clear hb
     refine hK.out _ _ ((HH9.out.below hb').cell (i := 2) rfl) (fun hHeld => ?_)
     clear hK K
     try simp only [Act.put, List.setIfInBounds_toArray, List.set_cons_zero, List.set_cons_succ]
     refine wpAnyH_take (i := 7) (oi := { dst := some 115, op := Op.move (Operand.tmp 122), type := 56, pos := _, after := _, guard := none }) (v := .tuple #[u, .bool true]) rfl (by kernel_rfl) (by kernel_rfl) (by kernel_rfl) (fun _ _ _ h => h) (Or.inl ⟨by rfl, ?_⟩) (by assumption) ?_
     ·intro wX hSw
      try dsimp only at hSw
      go_simp
      try exact IntWalk.i64_in _ (by omega)
     try simp only [Act.put, List.setIfInBounds_toArray, List.set_cons_zero, List.set_cons_succ]
     refine wpAnyH_take (i := 8) (oi := { dst := some 123, op := Op.extract (Operand.tmp 115) 0, type := 23, pos := _, after := _, guard := none }) (v := u) rfl (by kernel_rfl) (by kernel_rfl) (by kernel_rfl) (fun _ _ _ h => h) (Or.inl ⟨by rfl, ?_⟩) (by assumption) ?_
     ·intro wX hSw
      try dsimp only at hSw
      go_simp
      try exact IntWalk.i64_in _ (by omega)
     try simp only [Act.put, List.setIfInBounds_toArray, List.set_cons_zero, List.set_cons_succ]
     refine wpAnyH_take (i := 9) (oi := { dst := some 124, op := Op.extract (Operand.tmp 115) 1, type := 4, pos := _, after := _, guard := none }) (v := .bool true) rfl (by kernel_rfl) (by kernel_rfl) (by kernel_rfl) (fun _ _ _ h => h) (Or.inl ⟨by rfl, ?_⟩) (by assumption) ?_
     ·intro wX hSw
      try dsimp only at hSw
      go_simp
      try exact IntWalk.i64_in _ (by omega)
     try simp only [Act.put, List.setIfInBounds_toArray, List.set_cons_zero, List.set_cons_succ]
     refine wpAnyH_take (i := 10) (oi := { dst := some 11, op := Op.assign (Operand.tmp 123), type := 23, pos := _, after := _, guard := none }) (v := u) rfl (by kernel_rfl) (by kernel_rfl) (by kernel_rfl) (fun _ _ _ h => h) (Or.inl ⟨by rfl, ?_⟩) (by assumption) ?_
     ·intro wX hSw
      try dsimp only at hSw
      go_simp
      try exact IntWalk.i64_in _ (by omega)
     try simp only [Act.put, List.setIfInBounds_toArray, List.set_cons_zero, List.set_cons_succ]
     refine wpAnyH_take (i := 11) (oi := { dst := some 12, op := Op.assign (Operand.tmp 124), type := 4, pos := _, after := _, guard := none }) (v := .bool true) rfl (by kernel_rfl) (by kernel_rfl) (by kernel_rfl) (fun _ _ _ h => h) (Or.inl ⟨by rfl, ?_⟩) (by assumption) ?_
     ·intro wX hSw
      try dsimp only at hSw
      go_simp
      try exact IntWalk.i64_in _ (by omega)
     try simp only [Act.put, List.setIfInBounds_toArray, List.set_cons_zero, List.set_cons_succ]
     refine wpAnyH_done (by kernel_rfl) ?_ _
     have HD10 : Hid (IsI w10 u (decR l R.k (xa % 2))) := ho.isI
     have HH10 : Hid (Bk w10 w4.heap.size 48 #[.slice ra R.ev.length rc, .slice rx R.em.length rd, .int .i64 R.k, .bool R.f]) := HH9.out.below hb'
     have HMB10 : Hid (Bk w10 w2.heap.size 27 #[.int .i64 m.n, .int .i64 m.s, .slice ai m.i.length ci, .slice ah m.h.length ch, .slice ae m.e.length ce, .int .i64 m.z]) := HMB9.out.below hb'
     have HM10 : Hid (IsM w10 (.agg #[.int .i64 m.n, .int .i64 m.s, .slice ai m.i.length ci, .slice ah m.h.length ch, .slice ae m.e.length ce, .int .i64 m.z]) m) := HM9.out.below hb'
     have HI10 : Hid (IsHi w10 (.agg #[.slice ra R.ev.length rc, .slice rx R.em.length rd, .int .i64 R.k, .bool R.f]) R) := HI9.out.below hb'
     have HB10 : Hid (Below w.heap.size w w10) := HB9.out.trans (hb'.mono HB9.out.size)
     clear hb' ho HH9 HMB9 HM9 HD9 HI9 HB9
     obtain ⟨l2, hl2⟩ : ∃ l2, decR l R.k (xa % 2) = l2 := ⟨_, rfl⟩
     rw [hl2] at d2 d3 d4 d5 HD10
     have p0 := HMB10.out.cell (i := 0) rfl
     have p1 := HMB10.out.cell (i := 1) rfl
     have p2 := HMB10.out.cell (i := 2) rfl
     have p3 := HMB10.out.cell (i := 3) rfl
     have p4 := HMB10.out.cell (i := 4) rfl
     have p5 := HMB10.out.cell (i := 5) rfl
     go_wp2_with fail
     clear p0 p1 p2 p3 p4 p5
     refine (iSeq _ _ m l2 z w10 HTy.out.small (by omega) HM10.out HD10.out).mono ?_
     rintro r w11 ⟨v, rfl, hb, hH⟩
     rw [d3]
     obtain ⟨R3, hR3⟩ : ∃ R3, R3 = seqA m l2 z := ⟨_, rfl⟩
     have F3 := seq_facts d3
     rw [← hR3] at hH F3 d4 d5
     have HBE : Hid (Begins R R3 ∧ R3.ev.length ≤ 2000 ∧ R3.em.length ≤ 2000) := ⟨d4, by have := F3.el; omega, by have := F3.xl; omega⟩
     have HGR : Hid (R.ev.length < R3.ev.length ∨ (0 ≤ R3.k ∧ R3.k ≠ R.k)) := d5
     obtain ⟨sa', sc', sx', sd', rfl, _⟩ := hH.isHi
     obtain ⟨w12, hw12⟩ : ∃ V, w11.alloc (.cells #[.slice sa' R3.ev.length sc', .slice sx' R3.em.length sd', .int .i64 R3.k, .bool R3.f] 48) = V := ⟨_, rfl⟩
     have hb12 : Below w11.heap.size w11 w12 := hw12 ▸ (Below.refl _ w11).alloc (Nat.le_refl _) _
     have hbw : Below w10.heap.size w10 w12 := hb.trans (hb12.mono hb.size)
     have HK12 : Hid (Bk w12 w11.heap.size 48 #[.slice sa' R3.ev.length sc', .slice sx' R3.em.length sd', .int .i64 R3.k, .bool R3.f]) := hw12 ▸ Bk.new w11 _ _
     have HJ12 : Hid (IsHi w12 (.agg #[.slice sa' R3.ev.length sc', .slice sx' R3.em.length sd', .int .i64 R3.k, .bool R3.f]) R3) := hH.isHi.below hb12
     have HH12 : Hid (Bk w12 w4.heap.size 48 #[.slice ra R.ev.length rc, .slice rx R.em.length rd, .int .i64 R.k, .bool R.f]) := HH10.out.below hbw
     have HI12 : Hid (IsHi w12 (.agg #[.slice ra R.ev.length rc, .slice rx R.em.length rd, .int .i64 R.k, .bool R.f]) R) := HI10.out.below hbw
     have HB12 : Hid (Below w.heap.size w w12) := HB10.out.trans (hbw.mono HB10.out.size)
     clear hb hb12 hbw hH F3 hR3 d1 d2 d3 d4 d5 HH10 HMB10 HM10 HD10 HI10 HB10 hl2
     have r0 := HH12.out.cell (i := 0) rfl
     have r1 := HH12.out.cell (i := 1) rfl
     have r2 := HH12.out.cell (i := 2) rfl
     have r3 := HH12.out.cell (i := 3) rfl
     have s0 := HK12.out.cell (i := 0) rfl
     have s1 := HK12.out.cell (i := 1) rfl
     have s2 := HK12.out.cell (i := 2) rfl
     have s3 := HK12.out.cell (i := 3) rfl
     by_cases hgr : R.ev.length < R3.ev.length
     ·have hg1 : decide (R.ev.length < R3.ev.length) = true := decide_eq_true hgr
      go_wp2_with fail
      clear r0 r1 r2 r3 s0 s1 s2 s3
      refine (begins_any _ _ R R3 w12 HBE.out.1 HBE.out.2.1 HBE.out.2.2 HI12.out HJ12.out).mono ?_
      rintro r w13 ⟨rfl, hb⟩
      have HH13 : Hid (Bk w13 w4.heap.size 48 #[.slice ra R.ev.length rc, .slice rx R.em.length rd, .int .i64 R.k, .bool R.f]) := HH12.out.below hb
      have HK13 : Hid (Bk w13 w11.heap.size 48 #[.slice sa' R3.ev.length sc', .slice sx' R3.em.length sd', .int .i64 R3.k, .bool R3.f]) := HK12.out.below hb
      have HB13 : Hid (Below w.heap.size w w13) := HB12.out.trans (hb.mono HB12.out.size)
      clear hb
      have r0 := HH13.out.cell (i := 0) rfl
      have r1 := HH13.out.cell (i := 1) rfl
      have r2 := HH13.out.cell (i := 2) rfl
      have r3 := HH13.out.cell (i := 3) rfl
      have s0 := HK13.out.cell (i := 0) rfl
      have s1 := HK13.out.cell (i := 1) rfl
      have s2 := HK13.out.cell (i := 2) rfl
      have s3 := HK13.out.cell (i := 3) rfl
      go_wp2
      go_ret
      exact ⟨rfl, HB13.out⟩
     ·obtain ⟨hk0, hk1⟩ := HGR.out.resolve_left hgr
      have hg1 : decide (R.ev.length < R3.ev.length) = false := decide_eq_false hgr
      go_wp2_with fail
      clear r0 r1 r2 r3 s0 s1 s2 s3
      refine (begins_any _ _ R R3 w12 HBE.out.1 HBE.out.2.1 HBE.out.2.2 HI12.out HJ12.out).mono ?_
      rintro r w13 ⟨rfl, hb⟩
      have HH13 : Hid (Bk w13 w4.heap.size 48 #[.slice ra R.ev.length rc, .slice rx R.em.length rd, .int .i64 R.k, .bool R.f]) := HH12.out.below hb
      have HK13 : Hid (Bk w13 w11.heap.size 48 #[.slice sa' R3.ev.length sc', .slice sx' R3.em.length sd', .int .i64 R3.k, .bool R3.f]) := HK12.out.below hb
      have HB13 : Hid (Below w.heap.size w w13) := HB12.out.trans (hb.mono HB12.out.size)
      clear hb
      have r0 := HH13.out.cell (i := 0) rfl
      have r1 := HH13.out.cell (i := 1) rfl
      have r2 := HH13.out.cell (i := 2) rfl
      have r3 := HH13.out.cell (i := 3) rfl
      have s0 := HK13.out.cell (i := 0) rfl
      have s1 := HK13.out.cell (i := 1) rfl
      have s2 := HK13.out.cell (i := 2) rfl
      have s3 := HK13.out.cell (i := 3) rfl
      go_wp2
      go_ret
      exact ⟨rfl, HB13.out⟩
end Go.Proofs.YtbljfphdghfkfaaGreatDoor.LawSqn
