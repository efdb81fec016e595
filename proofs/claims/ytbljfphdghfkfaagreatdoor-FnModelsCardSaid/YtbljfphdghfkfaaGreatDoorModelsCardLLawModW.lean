/- FnModels: its walk. -/
import Derived.Test.YtbljfphdghfkfaaGreatDoorModelsCardG20
import Derived.Test.YtbljfphdghfkfaaGreatDoorModelsCardLFMd
import Derived.Test.YtbljfphdghfkfaaGreatDoorModelsCardG32
import Derived.Test.YtbljfphdghfkfaaGreatDoorModelsCardG18
import Derived.Test.YtbljfphdghfkfaaGreatDoorModelsCardG34
import Derived.Test.YtbljfphdghfkfaaGreatDoorModelsCardG05
import Derived.Test.YtbljfphdghfkfaaGreatDoorModelsCardLCTry
import Derived.Deep.Cut
namespace Go.Proofs.YtbljfphdghfkfaaGreatDoor.LawMod
open Go.ChangeShapes Go.WideShapes Go.ChangeAt Go.RowKit Go.Proofs.YtbljfphdghfkfaaGreatDoor
theorem read_back {l : List UInt8} {M : Md} (h : readOk l = true) (hM : M = readM l) : M.ok = true ∧ bytesR M = l ∧ l ≠ [] := by
 have e : M = rdM l := by rw [hM]; unfold readM; rw [if_pos h]
 have hok : M.ok = true := by
  rw [e]
  unfold readOk at h
  simp only [Bool.and_eq_true] at h
  exact h.2
 have hb : bytesR M = l := by
  unfold bytesR
  rw [if_pos hok, e]
  exact bytes_read h
 refine ⟨hok, hb, fun e0 => ?_⟩
 have h1 := (bytes_len hok).1
 unfold bytesR at hb
 rw [if_pos hok] at hb
 rw [hb, e0] at h1
 simp at h1
set_option maxRecDepth 100000 in
set_option maxHeartbeats 64000000 in
theorem walk (ca : Option Addr) (n cap : Nat) (w : World) (hn : n ≤ 140737488351232) (hC : CodeIn w w.heap.size ca n) (htab : Lib.TabIs Tryz.prog w "internal/strconv.uint64pow10" .u64 Lib.pow10Tab) :
  Calls Tryz.prog 3 #[.slice ca n cap] w fun e w' => e = .returned (.bool true) ∧ Below w.heap.size w w' := by
 have HC : Hid (CodeIn w w.heap.size ca n) := hC
 have HT : Hid (Lib.TabIs Tryz.prog w "internal/strconv.uint64pow10" .u64 Lib.pow10Tab) := htab
 go_enter Tryz.func3, Tryz.ntmps3
 go_wp2_with fail
 clear hC htab
 refine (drawMB_any ca n cap _ (by omega) HC.out).mono ?_
 rintro r w2 ⟨m, xm, rfl, hM, hTy, hb⟩
 have HTy : Hid (Tiny m) := hTy
 obtain ⟨vi, vh, vs, rfl, ⟨ai, aj, rfl, _⟩, ⟨ah, ak, rfl, _⟩, ⟨ae, af, rfl, _⟩⟩ := id hM
 obtain ⟨w3, hw3⟩ : ∃ V, w2.alloc (.cells #[.int .i64 m.n, .int .i64 m.s, .slice ai m.i.length aj, .slice ah m.h.length ak, .slice ae m.e.length af, .int .i64 m.z] 27) = V := ⟨_, rfl⟩
 have hb3 : Below w2.heap.size w2 w3 := hw3 ▸ (Below.refl _ w2).alloc (Nat.le_refl _) _
 have HMB_w3 : Hid (Bk w3 w2.heap.size 27 #[.int .i64 m.n, .int .i64 m.s, .slice ai m.i.length aj, .slice ah m.h.length ak, .slice ae m.e.length af, .int .i64 m.z]) := hw3 ▸ Bk.new w2 _ _
 have HM_w3 : Hid (IsM w3 (.agg #[.int .i64 m.n, .int .i64 m.s, .slice ai m.i.length aj, .slice ah m.h.length ak, .slice ae m.e.length af, .int .i64 m.z]) m) := hM.below hb3
 have HB_w3 : Hid (Below w.heap.size w w3) := hb.trans (hb3.mono hb.size)
 clear hM hTy hb hb3
 have p0 := HMB_w3.out.cell (i := 0) rfl
 have p1 := HMB_w3.out.cell (i := 1) rfl
 have p2 := HMB_w3.out.cell (i := 2) rfl
 have p3 := HMB_w3.out.cell (i := 3) rfl
 have p4 := HMB_w3.out.cell (i := 4) rfl
 have p5 := HMB_w3.out.cell (i := 5) rfl
 go_wp2_with fail
 clear hw3 p0 p1 p2 p3 p4 p5
 refine (iBytesM _ m w3 HTy.out.small HM_w3.out).mono ?_
 rintro r w4 ⟨u, rfl, hO, hb⟩
 have hU := hO.isI
 obtain ⟨ua, uc, rfl, _⟩ := id hU
 have HU4 : Hid (By.IsI w4 (.slice ua (bytesR m).length uc) (bytesR m)) := hU
 clear hU hO
 have HB_w4 : Hid (Below w.heap.size w w4) := HB_w3.out.trans (hb.mono HB_w3.out.size)
 have HMB_w4 : Hid (Bk w4 w2.heap.size 27 #[.int .i64 m.n, .int .i64 m.s, .slice ai m.i.length aj, .slice ah m.h.length ak, .slice ae m.e.length af, .int .i64 m.z]) := HMB_w3.out.below hb
 have HM_w4 : Hid (IsM w4 (.agg #[.int .i64 m.n, .int .i64 m.s, .slice ai m.i.length aj, .slice ah m.h.length ak, .slice ae m.e.length af, .int .i64 m.z]) m) := HM_w3.out.below hb
 clear HB_w3 HMB_w3 HM_w3
 clear hb
 cases hmo : m.ok with
 | false =>
  have HMO : Hid (m.ok = false) := hmo
  clear hmo HU4
  have p0 := HMB_w4.out.cell (i := 0) rfl
  have p1 := HMB_w4.out.cell (i := 1) rfl
  have p2 := HMB_w4.out.cell (i := 2) rfl
  have p3 := HMB_w4.out.cell (i := 3) rfl
  have p4 := HMB_w4.out.cell (i := 4) rfl
  have p5 := HMB_w4.out.cell (i := 5) rfl
  go_wp2_with fail
  clear p0 p1 p2 p3 p4 p5
  refine (sModM _ m w4 HTy.out.small HM_w4.out).mono ?_
  rintro r v1 ⟨rfl, hb⟩
  rw [HMO.out]
  have HB_v1 : Hid (Below w.heap.size w v1) := HB_w4.out.trans (hb.mono HB_w4.out.size)
  have HMB_v1 : Hid (Bk v1 w2.heap.size 27 #[.int .i64 m.n, .int .i64 m.s, .slice ai m.i.length aj, .slice ah m.h.length ak, .slice ae m.e.length af, .int .i64 m.z]) := HMB_w4.out.below hb
  have HM_v1 : Hid (IsM v1 (.agg #[.int .i64 m.n, .int .i64 m.s, .slice ai m.i.length aj, .slice ah m.h.length ak, .slice ae m.e.length af, .int .i64 m.z]) m) := HM_w4.out.below hb
  clear HB_w4 HMB_w4 HM_w4
  clear hb
  have p0 := HMB_v1.out.cell (i := 0) rfl
  have p1 := HMB_v1.out.cell (i := 1) rfl
  have p2 := HMB_v1.out.cell (i := 2) rfl
  have p3 := HMB_v1.out.cell (i := 3) rfl
  have p4 := HMB_v1.out.cell (i := 4) rfl
  have p5 := HMB_v1.out.cell (i := 5) rfl
  go_wp2_with fail
  clear p0 p1 p2 p3 p4 p5
  refine (iModM _ m v1 HTy.out.small HM_v1.out).mono ?_
  rintro r v2 ⟨rfl, hb⟩
  rw [HMO.out]
  have HB_v2 : Hid (Below w.heap.size w v2) := HB_v1.out.trans (hb.mono HB_v1.out.size)
  have HMB_v2 : Hid (Bk v2 w2.heap.size 27 #[.int .i64 m.n, .int .i64 m.s, .slice ai m.i.length aj, .slice ah m.h.length ak, .slice ae m.e.length af, .int .i64 m.z]) := HMB_v1.out.below hb
  have HM_v2 : Hid (IsM v2 (.agg #[.int .i64 m.n, .int .i64 m.s, .slice ai m.i.length aj, .slice ah m.h.length ak, .slice ae m.e.length af, .int .i64 m.z]) m) := HM_v1.out.below hb
  clear HB_v1 HMB_v1 HM_v1
  clear hb
  have p0 := HMB_v2.out.cell (i := 0) rfl
  have p1 := HMB_v2.out.cell (i := 1) rfl
  have p2 := HMB_v2.out.cell (i := 2) rfl
  have p3 := HMB_v2.out.cell (i := 3) rfl
  have p4 := HMB_v2.out.cell (i := 4) rfl
  have p5 := HMB_v2.out.cell (i := 5) rfl
  go_wp2_with fail
  clear p0 p1 p2 p3 p4 p5
  refine (iTextM _ m v2 HTy.out.small HM_v2.out (tab_kept HT.out HB_v2.out)).mono ?_
  rintro r v3 ⟨y, rfl, hO, hb⟩
  obtain ⟨ya, yc, rfl, _⟩ := hO
  have hpos := textR_pos m
  rw [HMO.out] at hpos
  generalize (textR m).length = tl at hpos ⊢
  have HB_v3 : Hid (Below w.heap.size w v3) := HB_v2.out.trans (hb.mono HB_v2.out.size)
  have HMB_v3 : Hid (Bk v3 w2.heap.size 27 #[.int .i64 m.n, .int .i64 m.s, .slice ai m.i.length aj, .slice ah m.h.length ak, .slice ae m.e.length af, .int .i64 m.z]) := HMB_v2.out.below hb
  have HM_v3 : Hid (IsM v3 (.agg #[.int .i64 m.n, .int .i64 m.s, .slice ai m.i.length aj, .slice ah m.h.length ak, .slice ae m.e.length af, .int .i64 m.z]) m) := HM_v2.out.below hb
  clear HB_v2 HMB_v2 HM_v2
  clear hb
  have htl : tl = 0 := by simpa using hpos
  subst htl
  clear hpos
  have p0 := HMB_v3.out.cell (i := 0) rfl
  have p1 := HMB_v3.out.cell (i := 1) rfl
  have p2 := HMB_v3.out.cell (i := 2) rfl
  have p3 := HMB_v3.out.cell (i := 3) rfl
  have p4 := HMB_v3.out.cell (i := 4) rfl
  have p5 := HMB_v3.out.cell (i := 5) rfl
  go_wp2_with fail
  clear p0 p1 p2 p3 p4 p5
  refine (iAskM _ m v3 HTy.out.small HM_v3.out).mono ?_
  rintro r v4 ⟨u, rfl, hO, hb⟩
  obtain ⟨ka, kc, rfl, _⟩ := hO
  have HB_v4 : Hid (Below w.heap.size w v4) := HB_v3.out.trans (hb.mono HB_v3.out.size)
  have HMB_v4 : Hid (Bk v4 w2.heap.size 27 #[.int .i64 m.n, .int .i64 m.s, .slice ai m.i.length aj, .slice ah m.h.length ak, .slice ae m.e.length af, .int .i64 m.z]) := HMB_v3.out.below hb
  have HM_v4 : Hid (IsM v4 (.agg #[.int .i64 m.n, .int .i64 m.s, .slice ai m.i.length aj, .slice ah m.h.length ak, .slice ae m.e.length af, .int .i64 m.z]) m) := HM_v3.out.below hb
  clear HB_v3 HMB_v3 HM_v3
  clear hb
  have p3 := HMB_v4.out.cell (i := 3) rfl
  generalize (asksL m).length = al
  go_wp2_with fail
  clear p3
  go_loopw [11] (fun i wr => i = .int .i64 0 ∧ wr = v4) (fun _ _ => 0)
  case atStart => exact ⟨rfl, rfl⟩
  case round =>
   obtain ⟨rfl, e⟩ := hrel
   have e := e.symm
   subst e
   have p3 := HMB_v4.out.cell (i := 3) rfl
   by_cases hz : (0 : Int) < (m.h.length : Int)
   ·have hz1 : (0 : Int) < (m.h.length : Int) := hz
    go_wp2_with fail
    refine (drawMR_any ca n cap _ (by omega) ((HC.out.below HB_v4.out (Nat.le_refl _)).mono HB_v4.out.size)).mono ?_
    rintro r x1 ⟨l, y, rfl, hI, hl, hb⟩
    obtain ⟨la, lc, rfl, _⟩ := id hI
    have HI1 : Hid (By.IsI x1 (.slice la l.length lc) l) := hI
    have HX1 : Hid (Below w.heap.size w x1) := HB_v4.out.trans (hb.mono HB_v4.out.size)
    clear hb hI HB_v4 HMB_v4 HM_v4
    go_wp2_with fail
    refine (iReadM _ l _ (by omega) HI1.out).mono ?_
    rintro r x2 ⟨y, rfl, hb, hM⟩
    have HI2 : Hid (By.IsI x2 (.slice la l.length lc) l) := HI1.out.below hb
    have HX2 : Hid (Below w.heap.size w x2) := HX1.out.trans (hb.mono HX1.out.size)
    obtain ⟨M, hMd⟩ : ∃ M, M = readM l := ⟨_, rfl⟩
    have HMd : Hid (M = readM l) := hMd
    rw [← hMd] at hM
    have hIM := hM.isM
    obtain ⟨vi, vh, vs, rfl, ⟨bi, bj, rfl, _⟩, ⟨bh, bk, rfl, _⟩, ⟨be, bf, rfl, _⟩⟩ := id hIM
    obtain ⟨x3, hx3⟩ : ∃ V, x2.alloc (.cells #[.int .i64 M.n, .int .i64 M.s, .slice bi M.i.length bj, .slice bh M.h.length bk, .slice be M.e.length bf, .int .i64 M.z] 27) = V := ⟨_, rfl⟩
    have hb3 : Below x2.heap.size x2 x3 := hx3 ▸ (Below.refl _ x2).alloc (Nat.le_refl _) _
    have HK3 : Hid (Bk x3 x2.heap.size 27 #[.int .i64 M.n, .int .i64 M.s, .slice bi M.i.length bj, .slice bh M.h.length bk, .slice be M.e.length bf, .int .i64 M.z]) := hx3 ▸ Bk.new x2 _ _
    have HM3 : Hid (IsM x3 (.agg #[.int .i64 M.n, .int .i64 M.s, .slice bi M.i.length bj, .slice bh M.h.length bk, .slice be M.e.length bf, .int .i64 M.z]) M) := hIM.below hb3
    have HI3 : Hid (By.IsI x3 (.slice la l.length lc) l) := HI2.out.below hb3
    have HX3 : Hid (Below w.heap.size w x3) := HX2.out.trans (hb3.mono HX2.out.size)
    clear hb hb3 hM hIM hMd HI1 HX1 HI2 HX2
    have p0 := HK3.out.cell (i := 0) rfl
    have p1 := HK3.out.cell (i := 1) rfl
    have p2 := HK3.out.cell (i := 2) rfl
    have p3 := HK3.out.cell (i := 3) rfl
    have p4 := HK3.out.cell (i := 4) rfl
    have p5 := HK3.out.cell (i := 5) rfl
    go_wp2_with fail
    clear hx3 p0 p1 p2 p3 p4 p5
    refine (iBytesM _ M x3 (by rw [HMd.out]; exact small_readM l) HM3.out).mono ?_
    rintro r x4 ⟨u, rfl, hO, hb⟩
    have HI4 : Hid (By.IsI x4 (.slice la l.length lc) l) := HI3.out.below hb
    have HX4 : Hid (Below w.heap.size w x4) := HX3.out.trans (hb.mono HX3.out.size)
    have hU := hO.isI
    obtain ⟨ua, uc, rfl, _⟩ := id hU
    have HU4 : Hid (By.IsI x4 (.slice ua (bytesR M).length uc) (bytesR M)) := hU
    clear hb hU hO HI3 HX3 HM3 HK3
    cases hro : readOk l with
    | false =>
     clear hro HMd HU4 HI4
     go_wp2_with fail
     refine (models_any _).mono ?_
     rintro r x5 ⟨rfl, hb⟩
     have HX5 : Hid (Below w.heap.size w x5) := HX4.out.trans (hb.mono HX4.out.size)
     clear hb
     go_wp2
     go_ret
     exact ⟨rfl, HX5.out⟩
    | true =>
     obtain ⟨e1, e2, e3⟩ := read_back hro HMd.out
     rw [e1]
     have HE2 : Hid (bytesR M = l) := e2
     have HE3 : Hid (l ≠ []) := e3
     clear hro HMd e1 e2 e3
     go_wp2_with fail
     refine (models_any _).mono ?_
     rintro r x5 ⟨rfl, hb⟩
     have HX5 : Hid (Below w.heap.size w x5) := HX4.out.trans (hb.mono HX4.out.size)
     have HI5 : Hid (By.IsI x5 (.slice la l.length lc) l) := HI4.out.below hb
     have HU5 : Hid (By.IsI x5 (.slice ua (bytesR M).length uc) l) := by have := HU4.out.below hb; rw [show bytesR M = l from HE2.out] at this ⊢; exact this
     clear hb HX4 HI4 HU4 HE2
     go_wp2_with fail
     refine (sameB_same _ _ l _ HE3.out HU5.out HI5.out).mono ?_
     rintro r x6 ⟨rfl, hb⟩
     have HX6 : Hid (Below w.heap.size w x6) := HX5.out.trans (hb.mono HX5.out.size)
     clear hb
     go_wp2
     go_ret
     exact ⟨rfl, HX6.out⟩
   ·have hz1 : ¬ (0 : Int) < (m.h.length : Int) := hz
    go_wp2_with fail
    refine (drawMR_any ca n cap _ (by omega) ((HC.out.below HB_v4.out (Nat.le_refl _)).mono HB_v4.out.size)).mono ?_
    rintro r x1 ⟨l, y, rfl, hI, hl, hb⟩
    obtain ⟨la, lc, rfl, _⟩ := id hI
    have HI1 : Hid (By.IsI x1 (.slice la l.length lc) l) := hI
    have HX1 : Hid (Below w.heap.size w x1) := HB_v4.out.trans (hb.mono HB_v4.out.size)
    clear hb hI HB_v4 HMB_v4 HM_v4
    go_wp2_with fail
    refine (iReadM _ l _ (by omega) HI1.out).mono ?_
    rintro r x2 ⟨y, rfl, hb, hM⟩
    have HI2 : Hid (By.IsI x2 (.slice la l.length lc) l) := HI1.out.below hb
    have HX2 : Hid (Below w.heap.size w x2) := HX1.out.trans (hb.mono HX1.out.size)
    obtain ⟨M, hMd⟩ : ∃ M, M = readM l := ⟨_, rfl⟩
    have HMd : Hid (M = readM l) := hMd
    rw [← hMd] at hM
    have hIM := hM.isM
    obtain ⟨vi, vh, vs, rfl, ⟨bi, bj, rfl, _⟩, ⟨bh, bk, rfl, _⟩, ⟨be, bf, rfl, _⟩⟩ := id hIM
    obtain ⟨x3, hx3⟩ : ∃ V, x2.alloc (.cells #[.int .i64 M.n, .int .i64 M.s, .slice bi M.i.length bj, .slice bh M.h.length bk, .slice be M.e.length bf, .int .i64 M.z] 27) = V := ⟨_, rfl⟩
    have hb3 : Below x2.heap.size x2 x3 := hx3 ▸ (Below.refl _ x2).alloc (Nat.le_refl _) _
    have HK3 : Hid (Bk x3 x2.heap.size 27 #[.int .i64 M.n, .int .i64 M.s, .slice bi M.i.length bj, .slice bh M.h.length bk, .slice be M.e.length bf, .int .i64 M.z]) := hx3 ▸ Bk.new x2 _ _
    have HM3 : Hid (IsM x3 (.agg #[.int .i64 M.n, .int .i64 M.s, .slice bi M.i.length bj, .slice bh M.h.length bk, .slice be M.e.length bf, .int .i64 M.z]) M) := hIM.below hb3
    have HI3 : Hid (By.IsI x3 (.slice la l.length lc) l) := HI2.out.below hb3
    have HX3 : Hid (Below w.heap.size w x3) := HX2.out.trans (hb3.mono HX2.out.size)
    clear hb hb3 hM hIM hMd HI1 HX1 HI2 HX2
    have p0 := HK3.out.cell (i := 0) rfl
    have p1 := HK3.out.cell (i := 1) rfl
    have p2 := HK3.out.cell (i := 2) rfl
    have p3 := HK3.out.cell (i := 3) rfl
    have p4 := HK3.out.cell (i := 4) rfl
    have p5 := HK3.out.cell (i := 5) rfl
    go_wp2_with fail
    clear hx3 p0 p1 p2 p3 p4 p5
    refine (iBytesM _ M x3 (by rw [HMd.out]; exact small_readM l) HM3.out).mono ?_
    rintro r x4 ⟨u, rfl, hO, hb⟩
    have HI4 : Hid (By.IsI x4 (.slice la l.length lc) l) := HI3.out.below hb
    have HX4 : Hid (Below w.heap.size w x4) := HX3.out.trans (hb.mono HX3.out.size)
    have hU := hO.isI
    obtain ⟨ua, uc, rfl, _⟩ := id hU
    have HU4 : Hid (By.IsI x4 (.slice ua (bytesR M).length uc) (bytesR M)) := hU
    clear hb hU hO HI3 HX3 HM3 HK3
    cases hro : readOk l with
    | false =>
     clear hro HMd HU4 HI4
     go_wp2_with fail
     refine (models_any _).mono ?_
     rintro r x5 ⟨rfl, hb⟩
     have HX5 : Hid (Below w.heap.size w x5) := HX4.out.trans (hb.mono HX4.out.size)
     clear hb
     go_wp2
     go_ret
     exact ⟨rfl, HX5.out⟩
    | true =>
     obtain ⟨e1, e2, e3⟩ := read_back hro HMd.out
     rw [e1]
     have HE2 : Hid (bytesR M = l) := e2
     have HE3 : Hid (l ≠ []) := e3
     clear hro HMd e1 e2 e3
     go_wp2_with fail
     refine (models_any _).mono ?_
     rintro r x5 ⟨rfl, hb⟩
     have HX5 : Hid (Below w.heap.size w x5) := HX4.out.trans (hb.mono HX4.out.size)
     have HI5 : Hid (By.IsI x5 (.slice la l.length lc) l) := HI4.out.below hb
     have HU5 : Hid (By.IsI x5 (.slice ua (bytesR M).length uc) l) := by have := HU4.out.below hb; rw [show bytesR M = l from HE2.out] at this ⊢; exact this
     clear hb HX4 HI4 HU4 HE2
     go_wp2_with fail
     refine (sameB_same _ _ l _ HE3.out HU5.out HI5.out).mono ?_
     rintro r x6 ⟨rfl, hb⟩
     have HX6 : Hid (Below w.heap.size w x6) := HX5.out.trans (hb.mono HX5.out.size)
     clear hb
     go_wp2
     go_ret
     exact ⟨rfl, HX6.out⟩
 | true =>
  have HMO : Hid (m.ok = true) := hmo
  clear hmo
  have hbl : bytesR m = bytesL m := by unfold bytesR; rw [if_pos HMO.out]
  rw [hbl] at HU4
  rw [hbl]
  have HNE : Hid (bytesL m ≠ []) := fun e => by have h1 := (bytes_len HMO.out).1; rw [e] at h1; simp at h1
  have HRB : Hid (readOk (bytesL m) = true ∧ readM (bytesL m) = m) := by obtain ⟨h1, h2⟩ := read_bytes HMO.out; exact ⟨h1, by unfold readM; rw [if_pos h1]; exact h2⟩
  have HBL : Hid ((bytesL m).length ≤ 1048576) := by have := (bytes_len HMO.out).2; show _ ≤ _; omega
  have HBE : Hid (bytesR m = bytesL m) := hbl
  clear hbl
  obtain ⟨B, hBd⟩ : ∃ B, bytesL m = B := ⟨_, rfl⟩
  rw [hBd] at HU4 HNE HRB HBL HBE ⊢
  clear hBd
  have HU_w4 := HU4
  clear HU4
  have p0 := HMB_w4.out.cell (i := 0) rfl
  have p1 := HMB_w4.out.cell (i := 1) rfl
  have p2 := HMB_w4.out.cell (i := 2) rfl
  have p3 := HMB_w4.out.cell (i := 3) rfl
  have p4 := HMB_w4.out.cell (i := 4) rfl
  have p5 := HMB_w4.out.cell (i := 5) rfl
  go_wp2_with fail
  clear p0 p1 p2 p3 p4 p5
  refine (sModM _ m w4 HTy.out.small HM_w4.out).mono ?_
  rintro r v1 ⟨rfl, hb⟩
  rw [HMO.out]
  have HU_v1 : Hid (By.IsI v1 (.slice ua B.length uc) B) := HU_w4.out.below hb
  clear HU_w4
  have HB_v1 : Hid (Below w.heap.size w v1) := HB_w4.out.trans (hb.mono HB_w4.out.size)
  have HMB_v1 : Hid (Bk v1 w2.heap.size 27 #[.int .i64 m.n, .int .i64 m.s, .slice ai m.i.length aj, .slice ah m.h.length ak, .slice ae m.e.length af, .int .i64 m.z]) := HMB_w4.out.below hb
  have HM_v1 : Hid (IsM v1 (.agg #[.int .i64 m.n, .int .i64 m.s, .slice ai m.i.length aj, .slice ah m.h.length ak, .slice ae m.e.length af, .int .i64 m.z]) m) := HM_w4.out.below hb
  clear HB_w4 HMB_w4 HM_w4
  clear hb
  have p0 := HMB_v1.out.cell (i := 0) rfl
  have p1 := HMB_v1.out.cell (i := 1) rfl
  have p2 := HMB_v1.out.cell (i := 2) rfl
  have p3 := HMB_v1.out.cell (i := 3) rfl
  have p4 := HMB_v1.out.cell (i := 4) rfl
  have p5 := HMB_v1.out.cell (i := 5) rfl
  go_wp2_with fail
  clear p0 p1 p2 p3 p4 p5
  refine (iModM _ m v1 HTy.out.small HM_v1.out).mono ?_
  rintro r v2 ⟨rfl, hb⟩
  rw [HMO.out]
  have HU_v2 : Hid (By.IsI v2 (.slice ua B.length uc) B) := HU_v1.out.below hb
  clear HU_v1
  have HB_v2 : Hid (Below w.heap.size w v2) := HB_v1.out.trans (hb.mono HB_v1.out.size)
  have HMB_v2 : Hid (Bk v2 w2.heap.size 27 #[.int .i64 m.n, .int .i64 m.s, .slice ai m.i.length aj, .slice ah m.h.length ak, .slice ae m.e.length af, .int .i64 m.z]) := HMB_v1.out.below hb
  have HM_v2 : Hid (IsM v2 (.agg #[.int .i64 m.n, .int .i64 m.s, .slice ai m.i.length aj, .slice ah m.h.length ak, .slice ae m.e.length af, .int .i64 m.z]) m) := HM_v1.out.below hb
  clear HB_v1 HMB_v1 HM_v1
  clear hb
  have p0 := HMB_v2.out.cell (i := 0) rfl
  have p1 := HMB_v2.out.cell (i := 1) rfl
  have p2 := HMB_v2.out.cell (i := 2) rfl
  have p3 := HMB_v2.out.cell (i := 3) rfl
  have p4 := HMB_v2.out.cell (i := 4) rfl
  have p5 := HMB_v2.out.cell (i := 5) rfl
  go_wp2_with fail
  clear p0 p1 p2 p3 p4 p5
  refine (iTextM _ m v2 HTy.out.small HM_v2.out (tab_kept HT.out HB_v2.out)).mono ?_
  rintro r v3 ⟨y, rfl, hO, hb⟩
  obtain ⟨ya, yc, rfl, _⟩ := hO
  have hpos := textR_pos m
  rw [HMO.out] at hpos
  generalize (textR m).length = tl at hpos ⊢
  have HU_v3 : Hid (By.IsI v3 (.slice ua B.length uc) B) := HU_v2.out.below hb
  clear HU_v2
  have HB_v3 : Hid (Below w.heap.size w v3) := HB_v2.out.trans (hb.mono HB_v2.out.size)
  have HMB_v3 : Hid (Bk v3 w2.heap.size 27 #[.int .i64 m.n, .int .i64 m.s, .slice ai m.i.length aj, .slice ah m.h.length ak, .slice ae m.e.length af, .int .i64 m.z]) := HMB_v2.out.below hb
  have HM_v3 : Hid (IsM v3 (.agg #[.int .i64 m.n, .int .i64 m.s, .slice ai m.i.length aj, .slice ah m.h.length ak, .slice ae m.e.length af, .int .i64 m.z]) m) := HM_v2.out.below hb
  clear HB_v2 HMB_v2 HM_v2
  clear hb
  have hpos2 : 0 < tl := by simpa using hpos
  go_wp2_with fail
  clear hpos2 hpos
  refine (iReadM _ B _ HBL.out HU_v3.out).mono ?_
  rintro r v4 ⟨y, rfl, hb, hM⟩
  rw [HRB.out.1]
  rw [HRB.out.2] at hM
  have hIM := hM.isM
  obtain ⟨vi, vh, vs, rfl, ⟨bi, bj, rfl, _⟩, ⟨bh, bk, rfl, _⟩, ⟨be, bf, rfl, _⟩⟩ := id hIM
  obtain ⟨v5, hv5⟩ : ∃ V, v4.alloc (.cells #[.int .i64 m.n, .int .i64 m.s, .slice bi m.i.length bj, .slice bh m.h.length bk, .slice be m.e.length bf, .int .i64 m.z] 27) = V := ⟨_, rfl⟩
  have hb5 : Below v4.heap.size v4 v5 := hv5 ▸ (Below.refl _ v4).alloc (Nat.le_refl _) _
  have HK5 : Hid (Bk v5 v4.heap.size 27 #[.int .i64 m.n, .int .i64 m.s, .slice bi m.i.length bj, .slice bh m.h.length bk, .slice be m.e.length bf, .int .i64 m.z]) := hv5 ▸ Bk.new v4 _ _
  have HN5 : Hid (IsM v5 (.agg #[.int .i64 m.n, .int .i64 m.s, .slice bi m.i.length bj, .slice bh m.h.length bk, .slice be m.e.length bf, .int .i64 m.z]) m) := hIM.below hb5
  have hb := hb.trans (hb5.mono hb.size)
  have HU_v5 : Hid (By.IsI v5 (.slice ua B.length uc) B) := HU_v3.out.below hb
  clear HU_v3
  have HB_v5 : Hid (Below w.heap.size w v5) := HB_v3.out.trans (hb.mono HB_v3.out.size)
  have HMB_v5 : Hid (Bk v5 w2.heap.size 27 #[.int .i64 m.n, .int .i64 m.s, .slice ai m.i.length aj, .slice ah m.h.length ak, .slice ae m.e.length af, .int .i64 m.z]) := HMB_v3.out.below hb
  have HM_v5 : Hid (IsM v5 (.agg #[.int .i64 m.n, .int .i64 m.s, .slice ai m.i.length aj, .slice ah m.h.length ak, .slice ae m.e.length af, .int .i64 m.z]) m) := HM_v3.out.below hb
  clear HB_v3 HMB_v3 HM_v3
  clear hb hb5 hM hIM
  have p0 := HK5.out.cell (i := 0) rfl
  have p1 := HK5.out.cell (i := 1) rfl
  have p2 := HK5.out.cell (i := 2) rfl
  have p3 := HK5.out.cell (i := 3) rfl
  have p4 := HK5.out.cell (i := 4) rfl
  have p5 := HK5.out.cell (i := 5) rfl
  go_wp2_with fail
  clear hv5 p0 p1 p2 p3 p4 p5
  refine (iBytesM _ m v5 HTy.out.small HN5.out).mono ?_
  rintro r v6 ⟨u, rfl, hO, hb⟩
  rw [HMO.out]
  rw [HBE.out] at hO
  obtain ⟨da, dc, rfl, _⟩ := id hO.isI
  have HD6 : Hid (By.IsI v6 (.slice da B.length dc) B) := hO.isI
  have HU_v6 : Hid (By.IsI v6 (.slice ua B.length uc) B) := HU_v5.out.below hb
  clear HU_v5
  have HB_v6 : Hid (Below w.heap.size w v6) := HB_v5.out.trans (hb.mono HB_v5.out.size)
  have HMB_v6 : Hid (Bk v6 w2.heap.size 27 #[.int .i64 m.n, .int .i64 m.s, .slice ai m.i.length aj, .slice ah m.h.length ak, .slice ae m.e.length af, .int .i64 m.z]) := HMB_v5.out.below hb
  have HM_v6 : Hid (IsM v6 (.agg #[.int .i64 m.n, .int .i64 m.s, .slice ai m.i.length aj, .slice ah m.h.length ak, .slice ae m.e.length af, .int .i64 m.z]) m) := HM_v5.out.below hb
  clear HB_v5 HMB_v5 HM_v5
  clear hb hO HK5 HN5
  go_wp2_with fail
  refine (sameB_same _ _ B _ HNE.out HU_v6.out HD6.out).mono ?_
  rintro r v7 ⟨rfl, hb⟩
  have HB_v7 : Hid (Below w.heap.size w v7) := HB_v6.out.trans (hb.mono HB_v6.out.size)
  have HMB_v7 : Hid (Bk v7 w2.heap.size 27 #[.int .i64 m.n, .int .i64 m.s, .slice ai m.i.length aj, .slice ah m.h.length ak, .slice ae m.e.length af, .int .i64 m.z]) := HMB_v6.out.below hb
  have HM_v7 : Hid (IsM v7 (.agg #[.int .i64 m.n, .int .i64 m.s, .slice ai m.i.length aj, .slice ah m.h.length ak, .slice ae m.e.length af, .int .i64 m.z]) m) := HM_v6.out.below hb
  clear HB_v6 HMB_v6 HM_v6
  clear hb HU_v6 HD6 HNE HRB HBL HBE
  have p0 := HMB_v7.out.cell (i := 0) rfl
  have p1 := HMB_v7.out.cell (i := 1) rfl
  have p2 := HMB_v7.out.cell (i := 2) rfl
  have p3 := HMB_v7.out.cell (i := 3) rfl
  have p4 := HMB_v7.out.cell (i := 4) rfl
  have p5 := HMB_v7.out.cell (i := 5) rfl
  go_wp2_with fail
  clear p0 p1 p2 p3 p4 p5
  refine (iAskM _ m v7 HTy.out.small HM_v7.out).mono ?_
  rintro r v8 ⟨u, rfl, hO, hb⟩
  obtain ⟨ka, kc, rfl, _, _, hrow⟩ := hO.isI
  have HKS : Hid (∀ k q, k < m.h.length → q < (hAt m.h k).length → seenB (asksL m) (oAt (hAt m.h k) q).c (oAt (hAt m.h k) q).a (asksL m).length = true) := fun k q hk hq => asks_in HMO.out hk hq
  have hal := asks_small m
  generalize asksL m = l at HKS hal hrow ⊢
  have HRW : Hid (l = [] ∨ ∃ b off, ka = some ⟨b, off, none⟩ ∧ IntsAt v8 b off l) := hrow
  have HB_v8 : Hid (Below w.heap.size w v8) := HB_v7.out.trans (hb.mono HB_v7.out.size)
  have HMB_v8 : Hid (Bk v8 w2.heap.size 27 #[.int .i64 m.n, .int .i64 m.s, .slice ai m.i.length aj, .slice ah m.h.length ak, .slice ae m.e.length af, .int .i64 m.z]) := HMB_v7.out.below hb
  have HM_v8 : Hid (IsM v8 (.agg #[.int .i64 m.n, .int .i64 m.s, .slice ai m.i.length aj, .slice ah m.h.length ak, .slice ae m.e.length af, .int .i64 m.z]) m) := HM_v7.out.below hb
  clear HB_v7 HMB_v7 HM_v7
  clear hb hrow hO
  go_wp2_with fail
  go_loopw [11] (fun i wr => ∃ k : Nat, k ≤ m.h.length ∧ i = .int .i64 k ∧ Hid (Below v8.heap.size v8 wr)) (fun i _ => m.h.length - (intOf i).toNat)
  case atStart => exact ⟨0, Nat.zero_le _, rfl, Below.refl _ _⟩
  case round =>
   obtain ⟨k, hk, rfl, HBr⟩ := hrel
   have hh10 : m.h.length ≤ 10 := HTy.out.2.1
   have p3 := (HMB_v8.out.below HBr.out).cell (i := 3) rfl
   by_cases hlt : k < m.h.length
   ·have hlt1 : (k : Int) < (m.h.length : Int) := by omega
    go_wp2_with fail
    clear p3
    go_loopw [12] (fun i wr => ∃ q : Nat, q ≤ (hAt m.h k).length ∧ i = .int .i64 q ∧ Hid (Below v8.heap.size v8 wr)) (fun i _ => (hAt m.h k).length - (intOf i).toNat)
    case atStart => exact ⟨0, Nat.zero_le _, rfl, HBr⟩
    case round =>
     clear HBr
     obtain ⟨q, hq, rfl, HBq⟩ := hrel
     have hr10 : (hAt m.h k).length ≤ 10 := HTy.out.2.2.1 k
     obtain ⟨_, _, _, hag, _, ⟨_, _, hsl, _, _, hrow⟩, _⟩ := HM_v8.out.below HBq.out
     simp only [Value.agg.injEq, Array.mk.injEq, List.cons.injEq, and_true, true_and] at hag
     obtain ⟨-, rfl, -⟩ := hag
     simp only [Value.slice.injEq, true_and] at hsl
     obtain ⟨rfl, rfl⟩ := hsl
     obtain ⟨hb0, ho0, rfl, hbl, hc⟩ := hrow.resolve_left (fun e => by rw [e] at hlt; simp at hlt)
     obtain ⟨_, f0, ⟨a1, c1, rfl, _, _, hops⟩⟩ := hc k hlt
     have p3 := (HMB_v8.out.below HBq.out).cell (i := 3) rfl
     clear hc hrow
     by_cases hql : q < (hAt m.h k).length
     ·have hql1 : (q : Int) < ((hAt m.h k).length : Int) := by omega
      obtain ⟨b1, o1, rfl, hb1, hc1⟩ := hops.resolve_left (fun e => by rw [e] at hql; simp at hql)
      obtain ⟨g0, g1, g2, g3⟩ := hc1 q hql
      have HOP : Hid ((oAt (hAt m.h k) q).ok m.n m.h.length = true) := ok_op HMO.out hlt hql
      have HSN : Hid (seenB l (oAt (hAt m.h k) q).c (oAt (hAt m.h k) q).a l.length = true) := HKS.out k q hlt hql
      clear hc1 hops
      generalize oAt (hAt m.h k) q = o at g0 g1 g2 g3 HOP HSN
      obtain ⟨c, a, b, d⟩ := o
      obtain ⟨V, hV⟩ : ∃ V, wr.alloc (.cells #[.int .i64 c, .int .i64 a, .int .i64 b, .int .i64 d] 39) = V := ⟨_, rfl⟩
      have hbV : Below wr.heap.size wr V := hV ▸ (Below.refl _ wr).alloc (Nat.le_refl _) _
      have HQ : Hid (Bk V wr.heap.size 39 #[.int .i64 c, .int .i64 a, .int .i64 b, .int .i64 d]) := hV ▸ Bk.new wr _ _
      have HBV : Hid (Below v8.heap.size v8 V) := HBq.out.trans (hbV.mono HBq.out.size)
      have q0 := HQ.out.cell (i := 0) rfl
      clear hbV HBq
      have HS0 : Hid ((!decide (c = 4)) = seenB l c a 0) := (seenB_zero l c a).symm
      obtain ⟨s0, hs0⟩ : ∃ s : Bool, s = (!decide (c = 4)) := ⟨_, rfl⟩
      rw [← hs0] at HS0
      have hc4 : (c != (4 : Int)) = s0 := by rw [hs0]; by_cases e : c = 4 <;> simp [e]
      clear hs0
      skip
      go_wp2_with fail
      clear hV q0 g0 g1 g2 g3 f0 p3 hc4
      obtain ⟨Q, hQ⟩ : ∃ Q, wr.heap.size = Q := ⟨_, rfl⟩
      rw [hQ] at HQ ⊢
      clear hQ
      go_loopw [14, 15] (fun f i wq => ∃ j : Nat, j ≤ l.length ∧ i = .int .i64 j ∧ ∃ s : Bool, f = .bool s ∧ Hid (s = seenB l c a j) ∧ Hid (Below V.heap.size V wq)) (fun _ i _ => l.length - (intOf i).toNat)
      case atStart => exact ⟨0, Nat.zero_le _, rfl, s0, rfl, HS0, Below.refl _ _⟩
      case round =>
       obtain ⟨j, hj, rfl, s, rfl, HSJ, HBj⟩ := hrel
       by_cases hjl : j < l.length
       ·have hjl1 : (j : Int) < (l.length : Int) := by omega
        obtain ⟨lb, lo, rfl, hlb, hlc⟩ := HRW.out.resolve_left (fun e => by rw [e] at hjl; simp at hjl)
        have hBall : Below v8.heap.size v8 _ := HBV.out.trans (HBj.out.mono HBV.out.size)
        have x0 := (hBall.cell (p := ⟨lb, lo + j, none⟩) hlb).trans (hlc j hjl)
        have hlb2 : lb < _ := Nat.lt_of_lt_of_le hlb hBall.size
        have y1 := (HQ.out.below HBj.out).cell (i := 1) rfl
        have HSS : Hid (seenB l c a (j + 1) = (seenB l c a j || decide (intAt l j = a))) := seenB_succ l c a j
        generalize intAt l j = x at x0 HSS
        obtain ⟨z, hz⟩ : ∃ z : Bool, z = decide (x = a) := ⟨_, rfl⟩
        rw [← hz] at HSS
        have hxa : (x == a) = z := by rw [hz]; by_cases e : x = a <;> simp [e]
        have HSj : Hid (s = seenB l c a j) := HSJ
        clear hz hlc hBall
        have hQ2 : Q < _ := (HQ.out.below HBj.out).lt
        have X0 : ∀ p : Beyond _, p.w.cell? ⟨lb, lo + j, none⟩ = some (.int .i64 x) := fun p => p.cell hlb2 x0
        have Y1 : ∀ p : Beyond _, p.w.cell? ⟨Q, 1, none⟩ = some (.int .i64 a) := fun p => p.cell hQ2 y1
        clear x0 y1
        cases s with
        | true =>
         have hne : Nonempty (Beyond wr) := ⟨⟨wr, Below.refl _ _⟩⟩
         go_wp2_with fail
         refine wp_region_beyond (by kernel_rfl) (by kernel_rfl) ?_
         repeat (go_big_quiet_step (fail))
         refine wpQuiet_nil ?_
         rintro w6 ⟨⟨_, hb6⟩, rfl⟩
         have HB6 : Hid (Below V.heap.size V _) := HBj.out.trans (hb6.mono HBj.out.size)
         clear hb6 X0 Y1 hxa
         go_wp2
         go_roundw
         case rel => exact ⟨j + 1, by omega, by go_num, true, rfl, by show _ = _; rw [HSS.out, ← HSj.out]; rfl, HB6⟩
         case measure => simp [intOf]; omega
        | false =>
         have hne : Nonempty (Beyond wr) := ⟨⟨wr, Below.refl _ _⟩⟩
         go_wp2_with fail
         refine wp_region_beyond (by kernel_rfl) (by kernel_rfl) ?_
         repeat (go_big_quiet_step (fail))
         refine wpQuiet_nil ?_
         rintro w6 ⟨⟨_, hb6⟩, rfl⟩
         have HB6 : Hid (Below V.heap.size V _) := HBj.out.trans (hb6.mono HBj.out.size)
         clear hb6 X0 Y1 hxa
         go_wp2
         go_roundw
         case rel => exact ⟨j + 1, by omega, by go_num, z, rfl, by show _ = _; rw [HSS.out, ← HSj.out]; simp, HB6⟩
         case measure => simp [intOf]; omega
       ·have hjl1 : ¬ (j : Int) < (l.length : Int) := by omega
        obtain rfl : j = l.length := by omega
        have hs := HSJ.out.trans HSN.out
        subst hs
        have HB9 : Hid (Below v8.heap.size v8 wr) := HBV.out.trans (HBj.out.mono HBV.out.size)
        have p0 := (HMB_v8.out.below HB9.out).cell (i := 0) rfl
        have p1 := (HMB_v8.out.below HB9.out).cell (i := 1) rfl
        have p2 := (HMB_v8.out.below HB9.out).cell (i := 2) rfl
        have p3 := (HMB_v8.out.below HB9.out).cell (i := 3) rfl
        have p4 := (HMB_v8.out.below HB9.out).cell (i := 4) rfl
        have p5 := (HMB_v8.out.below HB9.out).cell (i := 5) rfl
        have q0 := (HQ.out.below HBj.out).cell (i := 0) rfl
        have q1 := (HQ.out.below HBj.out).cell (i := 1) rfl
        have q2 := (HQ.out.below HBj.out).cell (i := 2) rfl
        have q3 := (HQ.out.below HBj.out).cell (i := 3) rfl
        go_wp2_with fail
        clear p0 p1 p2 p3 p4 p5 q0 q1 q2 q3
        refine (iOpM _ m c a b d _ (HM_v8.out.below HB9.out)).mono ?_
        rintro r w7 ⟨rfl, hb⟩
        rw [show okO m.n m.h.length c a b d = true from HOP.out]
        have HB10 : Hid (Below v8.heap.size v8 w7) := HB9.out.trans (hb.mono HB9.out.size)
        clear hb
        go_wp2
        go_roundw
        case rel => exact ⟨q + 1, by omega, by go_num, HB10⟩
        case measure => simp [intOf]; omega
     ·have hql1 : ¬ (q : Int) < ((hAt m.h k).length : Int) := by omega
      go_wp2
      go_roundw
      case rel => exact ⟨k + 1, by omega, by go_num, HBq⟩
      case measure => simp [intOf]; omega
   ·have hlt1 : ¬ (k : Int) < (m.h.length : Int) := by omega
    have HB_u : Hid (Below w.heap.size w wr) := HB_v8.out.trans (HBr.out.mono HB_v8.out.size)
    have HMB_u : Hid (Bk wr w2.heap.size 27 #[.int .i64 m.n, .int .i64 m.s, .slice ai m.i.length aj, .slice ah m.h.length ak, .slice ae m.e.length af, .int .i64 m.z]) := HMB_v8.out.below HBr.out
    have HM_u : Hid (IsM wr (.agg #[.int .i64 m.n, .int .i64 m.s, .slice ai m.i.length aj, .slice ah m.h.length ak, .slice ae m.e.length af, .int .i64 m.z]) m) := HM_v8.out.below HBr.out
    go_wp2_with fail
    refine (drawMR_any ca n cap _ (by omega) ((HC.out.below HB_u.out (Nat.le_refl _)).mono HB_u.out.size)).mono ?_
    rintro r x1 ⟨l, y, rfl, hI, hl, hb⟩
    obtain ⟨la, lc, rfl, _⟩ := id hI
    have HI1 : Hid (By.IsI x1 (.slice la l.length lc) l) := hI
    have HX1 : Hid (Below w.heap.size w x1) := HB_u.out.trans (hb.mono HB_u.out.size)
    clear hb hI HB_u HMB_u HM_u
    go_wp2_with fail
    refine (iReadM _ l _ (by omega) HI1.out).mono ?_
    rintro r x2 ⟨y, rfl, hb, hM⟩
    have HI2 : Hid (By.IsI x2 (.slice la l.length lc) l) := HI1.out.below hb
    have HX2 : Hid (Below w.heap.size w x2) := HX1.out.trans (hb.mono HX1.out.size)
    obtain ⟨M, hMd⟩ : ∃ M, M = readM l := ⟨_, rfl⟩
    have HMd : Hid (M = readM l) := hMd
    rw [← hMd] at hM
    have hIM := hM.isM
    obtain ⟨vi, vh, vs, rfl, ⟨bi, bj, rfl, _⟩, ⟨bh, bk, rfl, _⟩, ⟨be, bf, rfl, _⟩⟩ := id hIM
    obtain ⟨x3, hx3⟩ : ∃ V, x2.alloc (.cells #[.int .i64 M.n, .int .i64 M.s, .slice bi M.i.length bj, .slice bh M.h.length bk, .slice be M.e.length bf, .int .i64 M.z] 27) = V := ⟨_, rfl⟩
    have hb3 : Below x2.heap.size x2 x3 := hx3 ▸ (Below.refl _ x2).alloc (Nat.le_refl _) _
    have HK3 : Hid (Bk x3 x2.heap.size 27 #[.int .i64 M.n, .int .i64 M.s, .slice bi M.i.length bj, .slice bh M.h.length bk, .slice be M.e.length bf, .int .i64 M.z]) := hx3 ▸ Bk.new x2 _ _
    have HM3 : Hid (IsM x3 (.agg #[.int .i64 M.n, .int .i64 M.s, .slice bi M.i.length bj, .slice bh M.h.length bk, .slice be M.e.length bf, .int .i64 M.z]) M) := hIM.below hb3
    have HI3 : Hid (By.IsI x3 (.slice la l.length lc) l) := HI2.out.below hb3
    have HX3 : Hid (Below w.heap.size w x3) := HX2.out.trans (hb3.mono HX2.out.size)
    clear hb hb3 hM hIM hMd HI1 HX1 HI2 HX2
    have p0 := HK3.out.cell (i := 0) rfl
    have p1 := HK3.out.cell (i := 1) rfl
    have p2 := HK3.out.cell (i := 2) rfl
    have p3 := HK3.out.cell (i := 3) rfl
    have p4 := HK3.out.cell (i := 4) rfl
    have p5 := HK3.out.cell (i := 5) rfl
    go_wp2_with fail
    clear hx3 p0 p1 p2 p3 p4 p5
    refine (iBytesM _ M x3 (by rw [HMd.out]; exact small_readM l) HM3.out).mono ?_
    rintro r x4 ⟨u, rfl, hO, hb⟩
    have HI4 : Hid (By.IsI x4 (.slice la l.length lc) l) := HI3.out.below hb
    have HX4 : Hid (Below w.heap.size w x4) := HX3.out.trans (hb.mono HX3.out.size)
    have hU := hO.isI
    obtain ⟨ua, uc, rfl, _⟩ := id hU
    have HU4 : Hid (By.IsI x4 (.slice ua (bytesR M).length uc) (bytesR M)) := hU
    clear hb hU hO HI3 HX3 HM3 HK3
    cases hro : readOk l with
    | false =>
     clear hro HMd HU4 HI4
     go_wp2_with fail
     refine (models_any _).mono ?_
     rintro r x5 ⟨rfl, hb⟩
     have HX5 : Hid (Below w.heap.size w x5) := HX4.out.trans (hb.mono HX4.out.size)
     clear hb
     go_wp2
     go_ret
     exact ⟨rfl, HX5.out⟩
    | true =>
     obtain ⟨e1, e2, e3⟩ := read_back hro HMd.out
     rw [e1]
     have HE2 : Hid (bytesR M = l) := e2
     have HE3 : Hid (l ≠ []) := e3
     clear hro HMd e1 e2 e3
     go_wp2_with fail
     refine (models_any _).mono ?_
     rintro r x5 ⟨rfl, hb⟩
     have HX5 : Hid (Below w.heap.size w x5) := HX4.out.trans (hb.mono HX4.out.size)
     have HI5 : Hid (By.IsI x5 (.slice la l.length lc) l) := HI4.out.below hb
     have HU5 : Hid (By.IsI x5 (.slice ua (bytesR M).length uc) l) := by have := HU4.out.below hb; rw [show bytesR M = l from HE2.out] at this ⊢; exact this
     clear hb HX4 HI4 HU4 HE2
     go_wp2_with fail
     refine (sameB_same _ _ l _ HE3.out HU5.out HI5.out).mono ?_
     rintro r x6 ⟨rfl, hb⟩
     have HX6 : Hid (Below w.heap.size w x6) := HX5.out.trans (hb.mono HX5.out.size)
     clear hb
     go_wp2
     go_ret
     exact ⟨rfl, HX6.out⟩
end Go.Proofs.YtbljfphdghfkfaaGreatDoor.LawMod
