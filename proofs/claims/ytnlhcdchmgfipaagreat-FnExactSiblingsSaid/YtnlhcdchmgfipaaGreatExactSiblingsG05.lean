/- LawSiblingsW, OpenS, VOpen, MOpen, SOpen, TPtO -/
import Derived.Test.YtnlhcdchmgfipaaGreatExactSiblingsLWSi
import Derived.Test.YtnlhcdchmgfipaaGreatExactSiblingsLWSb
import Derived.Test.YtnlhcdchmgfipaaGreatExactWorldOkG44
import Derived.Test.YtnlhcdchmgfipaaGreatExactSiblingsLWTo
import Derived.Deep.RegionHeld3
import Derived.Test.YtnlhcdchmgfipaaGreatExactWorldOkG18
import Derived.Test.YtnlhcdchmgfipaaGreatExactWorldOkG01
import Derived.ProofKit
import Derived.ChangeOld
import Derived.OpenShut
import Derived.SizedLaws
import Derived.Test.YtnlhcdchmgfipaaGreatExactWorldOkG04
/- The walk of FnExactSiblings. -/
namespace Go.Proofs.YtnlhcdchmgfipaaGreat.LawExactSiblings
open Go.ChangeShapes Go.WideShapes Go.ChangeAt Go.RowKit Go.Proofs.YtnlhcdchmgfipaaGreat
theorem hidLawSiblingsW {p : Prop} (h : p) : Hid p := h
set_option maxRecDepth 100000 in
set_option maxHeartbeats 16000000 in
theorem walk (x : Value) (v : Wd) (i1 i2 : Int) (w : World) (hx : IsW w x v) (_h1 : wfI i1) (_h2 : wfI i2) :
  Calls Tryz.prog 12 #[x, .int .i64 i1, .int .i64 i2] w fun e w' => e = .returned (.bool true) ∧ Below w.heap.size w w' := by
 have HX : Hid (IsW w x v) := hx
 obtain ⟨vi, vh, vs, uk, uc, rfl, _⟩ := hx
 clear _h1 _h2
 obtain ⟨W0, hW0⟩ : ∃ W0, w.alloc (.cells #[.int .i64 v.m.n, .int .i64 v.m.s, vi, vh, vs, .int .i64 v.m.z, uk, uc] 55) = W0 := ⟨_, rfl⟩
 have HB_W0 : Hid (Below w.heap.size w W0) := by rw [← hW0]; exact (Below.refl _ w).alloc (Nat.le_refl _) _
 have HP_W0 : Hid (Bk W0 w.heap.size 55 #[.int .i64 v.m.n, .int .i64 v.m.s, vi, vh, vs, .int .i64 v.m.z, uk, uc]) := by rw [← hW0]; exact Bk.new w _ _
 have p0 := HP_W0.out.cell (i := 0) rfl
 have p1 := HP_W0.out.cell (i := 1) rfl
 have p2 := HP_W0.out.cell (i := 2) rfl
 have p3 := HP_W0.out.cell (i := 3) rfl
 have p4 := HP_W0.out.cell (i := 4) rfl
 have p5 := HP_W0.out.cell (i := 5) rfl
 have p6 := HP_W0.out.cell (i := 6) rfl
 have p7 := HP_W0.out.cell (i := 7) rfl
 have hP0 : w.heap.size < W0.heap.size := HP_W0.out.lt
 go_enter Tryz.func12, Tryz.ntmps12
 go_wp2_with fail
 clear hW0 p0 p1 p2 p3 p4 p5 p6 p7
 refine (szWorld_any _ v _ (HX.out.under HB_W0.out)).mono ?_
 rintro e w1 ⟨⟨r, rfl, hr⟩, hb⟩
 have z_w1 : W0.heap.size ≤ w1.heap.size := hb.size
 have HB_w1 := hidLawSiblingsW (HB_W0.out.trans (hb.mono HB_W0.out.size))
 have HP_w1 := hidLawSiblingsW (HP_W0.out.below hb)
 clear HB_W0 HP_W0 hb
 rcases hr with rfl | ⟨hr0, hr9⟩
 case inl =>
  go_wp2
  go_ret
  exact ⟨rfl, HB_w1.out⟩
 have hr1 : ¬ (r < 0) := by omega
 have HSM : Hid (SmallWd v) := hr9
 clear hr0 hr9
 have p0 := HP_w1.out.cell (i := 0) rfl
 have p1 := HP_w1.out.cell (i := 1) rfl
 have p2 := HP_w1.out.cell (i := 2) rfl
 have p3 := HP_w1.out.cell (i := 3) rfl
 have p4 := HP_w1.out.cell (i := 4) rfl
 have p5 := HP_w1.out.cell (i := 5) rfl
 have p6 := HP_w1.out.cell (i := 6) rfl
 have p7 := HP_w1.out.cell (i := 7) rfl
 go_wp2_with fail
 clear p0 p1 p2 p3 p4 p5 p6 p7
 refine (toWorld_any _ v _ HSM.out (HX.out.under HB_w1.out)).mono ?_
 rintro e w2 ⟨y0, rfl, hb, hr⟩
 have z_w2 : w1.heap.size ≤ w2.heap.size := hb.size
 have HB_w2 := hidLawSiblingsW (HB_w1.out.trans (hb.mono HB_w1.out.size))
 have HP_w2 := hidLawSiblingsW (HP_w1.out.below hb)
 clear HB_w1 HP_w1
 have HT_w2 : Hid (IsW w2 y0 v) := hr
 clear hb hr
 go_wp2_with fail
 refine (sSibl _ v i1 i2 _ HSM.out HT_w2.out).mono ?_
 rintro e w3 ⟨rfl, hb⟩
 have z_w3 : w2.heap.size ≤ w3.heap.size := hb.size
 have HB_w3 := hidLawSiblingsW (HB_w2.out.trans (hb.mono HB_w2.out.size))
 have HP_w3 := hidLawSiblingsW (HP_w2.out.below hb)
 clear HB_w2 HP_w2
 clear hb HT_w2
 have p0 := HP_w3.out.cell (i := 0) rfl
 have p1 := HP_w3.out.cell (i := 1) rfl
 have p2 := HP_w3.out.cell (i := 2) rfl
 have p3 := HP_w3.out.cell (i := 3) rfl
 have p4 := HP_w3.out.cell (i := 4) rfl
 have p5 := HP_w3.out.cell (i := 5) rfl
 have p6 := HP_w3.out.cell (i := 6) rfl
 have p7 := HP_w3.out.cell (i := 7) rfl
 go_wp2_with fail
 clear p0 p1 p2 p3 p4 p5 p6 p7
 refine (toWorld_any _ v _ HSM.out (HX.out.under HB_w3.out)).mono ?_
 rintro e w4 ⟨y1, rfl, hb, hr⟩
 have z_w4 : w3.heap.size ≤ w4.heap.size := hb.size
 have HB_w4 := hidLawSiblingsW (HB_w3.out.trans (hb.mono HB_w3.out.size))
 have HP_w4 := hidLawSiblingsW (HP_w3.out.below hb)
 clear HB_w3 HP_w3
 have HR_w4 : Hid (IsW w4 y1 v) := hr
 clear hb hr
 obtain ⟨ai, ci, ah, ch, ae, ce, ak, ck, ac, cc, rfl, _⟩ := HR_w4.out.form
 obtain ⟨Vw4, hVw4⟩ : ∃ V, w4.alloc (.cells #[.int .i64 v.m.n, .int .i64 v.m.s, .slice ai v.m.i.length ci, .slice ah v.m.h.length ch, .slice ae v.m.e.length ce, .int .i64 v.m.z, .slice ak v.k.length ck, .slice ac v.c.length cc] 60) = V := ⟨_, rfl⟩
 have BHX0 : Bk Vw4 w4.heap.size 60 #[.int .i64 v.m.n, .int .i64 v.m.s, .slice ai v.m.i.length ci, .slice ah v.m.h.length ch, .slice ae v.m.e.length ce, .int .i64 v.m.z, .slice ak v.k.length ck, .slice ac v.c.length cc] := by rw [← hVw4]; exact Bk.new _ _ _
 have hb : Below w4.heap.size w4 Vw4 := by rw [← hVw4]; exact (Below.refl _ _).alloc (Nat.le_refl _) _
 have y_Vw4 : w4.heap.size < Vw4.heap.size := BHX0.lt
 have z_Vw4 : w4.heap.size ≤ Vw4.heap.size := hb.size
 have HB_Vw4 := hidLawSiblingsW (HB_w4.out.trans (hb.mono HB_w4.out.size))
 have HP_Vw4 := hidLawSiblingsW (HP_w4.out.below hb)
 have HR_Vw4 := hidLawSiblingsW (HR_w4.out.under hb)
 clear HB_w4 HP_w4 HR_w4
 have HX0_Vw4 := hidLawSiblingsW BHX0
 clear hb BHX0
 have r0 := HX0_Vw4.out.cell (i := 0) rfl
 have r1 := HX0_Vw4.out.cell (i := 1) rfl
 have r2 := HX0_Vw4.out.cell (i := 2) rfl
 have r3 := HX0_Vw4.out.cell (i := 3) rfl
 have r4 := HX0_Vw4.out.cell (i := 4) rfl
 have r5 := HX0_Vw4.out.cell (i := 5) rfl
 have r6 := HX0_Vw4.out.cell (i := 6) rfl
 have r7 := HX0_Vw4.out.cell (i := 7) rfl
 go_wp2_with fail
 clear hVw4 r0 r1 r2 r3 r4 r5 r6 r7
 refine (iSibl _ v i1 i2 _ HSM.out HR_Vw4.out).mono ?_
 rintro e w5 ⟨rfl, hb⟩
 have z_w5 : Vw4.heap.size ≤ w5.heap.size := hb.size
 have HB_w5 := hidLawSiblingsW (HB_Vw4.out.trans (hb.mono HB_Vw4.out.size))
 have HP_w5 := hidLawSiblingsW (HP_Vw4.out.below hb)
 have HR_w5 := hidLawSiblingsW (HR_Vw4.out.under hb)
 have HX0_w5 := hidLawSiblingsW (HX0_Vw4.out.below hb)
 clear HB_Vw4 HP_Vw4 HR_Vw4 HX0_Vw4
 clear hb
 have p0 := HP_w5.out.cell (i := 0) rfl
 have p1 := HP_w5.out.cell (i := 1) rfl
 have p2 := HP_w5.out.cell (i := 2) rfl
 have p3 := HP_w5.out.cell (i := 3) rfl
 have p4 := HP_w5.out.cell (i := 4) rfl
 have p5 := HP_w5.out.cell (i := 5) rfl
 have p6 := HP_w5.out.cell (i := 6) rfl
 have p7 := HP_w5.out.cell (i := 7) rfl
 have r0 := HX0_w5.out.cell (i := 0) rfl
 have r1 := HX0_w5.out.cell (i := 1) rfl
 have r2 := HX0_w5.out.cell (i := 2) rfl
 have r3 := HX0_w5.out.cell (i := 3) rfl
 have r4 := HX0_w5.out.cell (i := 4) rfl
 have r5 := HX0_w5.out.cell (i := 5) rfl
 have r6 := HX0_w5.out.cell (i := 6) rfl
 have r7 := HX0_w5.out.cell (i := 7) rfl
 go_wp2_with fail
 have hzz : w.heap.size < w5.heap.size := by omega
 have hzy : w4.heap.size < w5.heap.size := by omega
 go_region_held3 (fun W => W.cell? ⟨w.heap.size, 0, none⟩ = some (.int .i64 v.m.n) ∧ W.cell? ⟨w.heap.size, 1, none⟩ = some (.int .i64 v.m.s) ∧ W.cell? ⟨w.heap.size, 2, none⟩ = some (vi) ∧ W.cell? ⟨w.heap.size, 3, none⟩ = some (vh) ∧ W.cell? ⟨w.heap.size, 4, none⟩ = some (vs) ∧ W.cell? ⟨w.heap.size, 5, none⟩ = some (.int .i64 v.m.z) ∧ W.cell? ⟨w.heap.size, 6, none⟩ = some (uk) ∧ W.cell? ⟨w.heap.size, 7, none⟩ = some (uc) ∧ W.cell? ⟨w4.heap.size, 0, none⟩ = some (.int .i64 v.m.n) ∧ W.cell? ⟨w4.heap.size, 1, none⟩ = some (.int .i64 v.m.s) ∧ W.cell? ⟨w4.heap.size, 2, none⟩ = some (.slice ai v.m.i.length ci) ∧ W.cell? ⟨w4.heap.size, 3, none⟩ = some (.slice ah v.m.h.length ch) ∧ W.cell? ⟨w4.heap.size, 4, none⟩ = some (.slice ae v.m.e.length ce) ∧ W.cell? ⟨w4.heap.size, 5, none⟩ = some (.int .i64 v.m.z) ∧ W.cell? ⟨w4.heap.size, 6, none⟩ = some (.slice ak v.k.length ck) ∧ W.cell? ⟨w4.heap.size, 7, none⟩ = some (.slice ac v.c.length cc)) ((repeat' apply And.intro) <;> first | (go_keep; done) | (rw [hcA _ _ (by first | omega | (simp; omega))]; simp [*]; done))
  (first | (go_at_call 27; refine (toWorld_any _ v _ HSM.out (HX.out.under HB_w5.out.drew)).mono ?_; rintro e w7 ⟨y2, rfl, hbw7, hr2⟩; obtain ⟨hcA, hfA⟩ := bcell hbw7; have hzw7 : w5.heap.size ≤ w7.heap.size := hbw7.size) | (go_at_call 29; refine (eqWorld_same _ _ v _ HSM.out (HR_w5.out.under ((Below.refl _ w5).drew.trans hbw7)) hr2).mono ?_; rintro e w8 ⟨rfl, hbw8⟩; obtain ⟨hcA, hfA⟩ := bcell hbw8; have hzw8 : w7.heap.size ≤ w8.heap.size := hbw8.size))
 clear hcA hfA
 have hbc : Below w5.heap.size w5 w8 := ((Below.refl w5.heap.size w5).drew.trans (hbw7.mono (Nat.le_refl _))).trans (hbw8.mono (by omega))
 clear p0 p1 p2 p3 p4 p5 p6 p7 r0 r1 r2 r3 r4 r5 r6 r7
 have HB_w8 := hidLawSiblingsW (HB_w5.out.trans (hbc.mono HB_w5.out.size))
 clear hbc hr2 hbw7 hzw7 hbw8 hzw8 hzz hzy
 go_wp2
 go_ret
 exact ⟨rfl, HB_w8.out⟩
end Go.Proofs.YtnlhcdchmgfipaaGreat.LawExactSiblings
/- How a list of events that came in is read. -/
namespace Go.Proofs.YtnlhcdchmgfipaaGreat
open Go.ChangeShapes Go.WideShapes Go.ChangeAt Go.RowKit
theorem evs_list {w : World} {b off : Nat} : ∀ n, (∀ i, i < n → ∃ e : Ev, Ev.In w b (off + i * 7) e) → ∃ l : List Ev, l.length = n ∧ ∀ i, i < n → Ev.In w b (off + i * 7) (evAt l i)
 | 0, _ => ⟨[], rfl, fun i hi => by omega⟩
 | n + 1, h => by
  obtain ⟨l, hl, hi⟩ := evs_list n (fun i hi => h i (by omega))
  obtain ⟨e, he⟩ := h n (by omega)
  refine ⟨l ++ [e], by simp [hl], fun i hi' => ?_⟩
  by_cases hin : i < n
  ·have : evAt (l ++ [e]) i = evAt l i := by unfold evAt; simp [List.getElem?_append_left (by omega : i < l.length)]
   rw [this]; exact hi i hin
  ·have : evAt (l ++ [e]) i = e := by unfold evAt; simp [show i = l.length by omega]
   rw [this, show i = n by omega]; exact he
theorem add_plain (b off n : Nat) : (⟨b, off, none⟩ : Addr).add n = ⟨b, off + n, none⟩ := by
 unfold Addr.add
 split <;> simp_all
end Go.Proofs.YtnlhcdchmgfipaaGreat
/- How a list of numbers that came in is read. -/
namespace Go.Proofs.YtnlhcdchmgfipaaGreat
open Go.ChangeShapes Go.WideShapes Go.ChangeAt Go.RowKit
theorem ints_list {w : World} {b off : Nat} : ∀ n, (∀ i, i < n → ∃ z : Int, w.cell? ⟨b, off + i, none⟩ = some (.int .i64 z)) → ∃ l : List Int, l.length = n ∧ ∀ i, i < n → w.cell? ⟨b, off + i, none⟩ = some (.int .i64 (intAt l i))
 | 0, _ => ⟨[], rfl, fun i hi => by omega⟩
 | n + 1, h => by
  obtain ⟨l, hl, hi⟩ := ints_list n (fun i hi => h i (by omega))
  obtain ⟨e, he⟩ := h n (by omega)
  refine ⟨l ++ [e], by simp [hl], fun i hi' => ?_⟩
  by_cases hin : i < n
  ·have : intAt (l ++ [e]) i = intAt l i := by unfold intAt; simp [List.getElem?_append_left (by omega : i < l.length)]
   rw [this]; exact hi i hin
  ·have : intAt (l ++ [e]) i = e := by unfold intAt; simp [show i = l.length by omega]
   rw [this, show i = n by omega]; exact he
end Go.Proofs.YtnlhcdchmgfipaaGreat
/- How a model that came in is read. -/
namespace Go.Proofs.YtnlhcdchmgfipaaGreat
open Go.ChangeShapes Go.WideShapes Go.ChangeAt Go.RowKit
theorem cellsOp : Tryz.prog.cellsOf 219 = 4 := by kernel_rfl
theorem cellsRow : Tryz.prog.cellsOf 186 = 1 := by kernel_rfl
theorem cellsRows : Tryz.prog.cellsOf 23 = 1 := by kernel_rfl
theorem cellsInts : Tryz.prog.cellsOf 22 = 1 := by kernel_rfl
theorem cellsEvs : Tryz.prog.cellsOf 24 = 1 := by kernel_rfl
theorem cellsM : Tryz.prog.cellsOf 26 = 6 := by kernel_rfl
theorem list4 {α : Type} {l : List α} (h : l.length = 4) : ∃ a b c d, l = [a, b, c, d] := by
 match l, h with
 | [a, b, c, d], _ => exact ⟨a, b, c, d, rfl⟩
theorem list6 {α : Type} {l : List α} (h : l.length = 6) : ∃ a b c d e f, l = [a, b, c, d, e, f] := by
 match l, h with
 | [a, b, c, d, e, f], _ => exact ⟨a, b, c, d, e, f, rfl⟩
set_option maxRecDepth 100000 in
theorem trod_op {H : Type} {enc : TypeId × Value → H} {w : World} {base : Nat} {spare : Nat → Bool} {held : Bool} {fuel : Nat} {cs : List Value} {x : DataW H × List MemPlace}
  (h : DataW.trod enc Tryz.prog w base spare held fuel 219 cs = some x) : ∃ c a b k : Int, cs = [.int .i64 c, .int .i64 a, .int .i64 b, .int .i64 k] ∧ wfI c ∧ wfI a ∧ wfI b ∧ wfI k := by
 obtain ⟨xs, n, _, rfl, hl, hlen, hf⟩ := DataW.trod_struct Tryz.underlying219 h
 rw [cellsOp] at hl
 obtain ⟨c0, c1, c2, c3, rfl⟩ := list4 hl
 have hx : xs.length = 4 := by simpa using hlen
 obtain ⟨y0, y1, y2, y3, rfl⟩ := list4 hx
 have h0 := hf 0 _ rfl
 have h1 := hf 1 _ rfl
 have h2 := hf 2 _ rfl
 have h3 := hf 3 _ rfl
 obtain ⟨a0, e0, _, w0⟩ := DataW.trod_int Tryz.underlying3 h0
 obtain ⟨a1, e1, _, w1⟩ := DataW.trod_int Tryz.underlying3 h1
 obtain ⟨a2, e2, _, w2⟩ := DataW.trod_int Tryz.underlying3 h2
 obtain ⟨a3, e3, _, w3⟩ := DataW.trod_int Tryz.underlying3 h3
 simp [cells3] at e0 e1 e2 e3
 subst e0 e1 e2 e3
 exact ⟨a0, a1, a2, a3, rfl, w0, w1, w2, w3⟩
set_option maxRecDepth 100000 in
theorem trod_ints {H : Type} {enc : TypeId × Value → H} {w : World} {spare : Nat → Bool} {held : Bool} {fuel : Nat} {cs : List Value} {x : DataW H × List MemPlace}
  (hf : DataW.trod enc Tryz.prog w 0 spare held fuel 22 cs = some x) : ∃ v l, cs = [v] ∧ IsI w v l := by
 rcases DataW.trod_slice Tryz.underlying22 hf with ⟨rfl, _⟩ | ⟨a, len, cap, elems, rest, n, _, rfl, _, hb, hl, hm, hlen, hel, _, _⟩
 ·exact ⟨_, [], rfl, none, 0, rfl, Nat.le_refl _, by unfold maxLen; omega, .inl rfl⟩
 ·by_cases h0 : len = 0
  ·subst h0
   exact ⟨_, [], rfl, _, _, rfl, hl, hm, .inl rfl⟩
  ·obtain ⟨b, off, spot⟩ := a
   have hs : spot = none := by
    have h1 := hel 0 (by omega)
    rw [cells3, List.getElem?_eq_getElem (by omega)] at h1
    obtain ⟨cs, hc, ht⟩ := Option.bind_eq_some_iff.1 h1
    obtain ⟨t, rfl, _⟩ := DataW.trod_int Tryz.underlying3 ht
    have c0 := (World.cells?_some hc).2.2 0 (by omega)
    simpa [Addr.add] using World.cell?_spot c0
   subst hs
   have each : ∀ i, i < len → ∃ z : Int, w.cell? ⟨b, off + i, none⟩ = some (.int .i64 z) ∧ b < w.heap.size := by
    intro i hi
    have h1 := hel i hi
    rw [cells3, List.getElem?_eq_getElem (by omega), add_plain] at h1
    obtain ⟨cs, hc, ht⟩ := Option.bind_eq_some_iff.1 h1
    obtain ⟨t, rfl, _, hw⟩ := DataW.trod_int Tryz.underlying3 ht
    have hblk : b < w.heap.size := World.cells?_block hc (by omega)
    obtain ⟨_, _, hcell⟩ := World.cells?_some hc
    have h2 := hcell 0 (by omega)
    simp only [add_plain] at h2
    exact ⟨t, by simpa using h2, hblk⟩
   obtain ⟨_, _, hblk⟩ := each 0 (by omega)
   obtain ⟨l, rfl, hi⟩ := ints_list (w := w) (b := b) (off := off) len (fun i hi => by
    obtain ⟨e, he, _⟩ := each i hi
    exact ⟨e, he⟩)
   exact ⟨_, l, rfl, _, _, rfl, hl, hm, .inr ⟨b, off, rfl, hblk, hi⟩⟩
set_option maxRecDepth 100000 in
theorem trod_evs {H : Type} {enc : TypeId × Value → H} {w : World} {spare : Nat → Bool} {held : Bool} {fuel : Nat} {cs : List Value} {x : DataW H × List MemPlace}
  (hf : DataW.trod enc Tryz.prog w 0 spare held fuel 24 cs = some x) : ∃ v l, cs = [v] ∧ IsEvs w v l := by
 rcases DataW.trod_slice Tryz.underlying24 hf with ⟨rfl, _⟩ | ⟨a, len, cap, elems, rest, n, _, rfl, _, hb, hl, hm, hlen, hel, _, _⟩
 ·exact ⟨_, [], rfl, none, 0, rfl, Nat.le_refl _, by unfold maxLen; omega, .inl rfl⟩
 ·by_cases h0 : len = 0
  ·subst h0
   exact ⟨_, [], rfl, _, _, rfl, hl, hm, .inl rfl⟩
  ·obtain ⟨b, off, spot⟩ := a
   have hs : spot = none := by
    have h1 := hel 0 (by omega)
    rw [cells23, List.getElem?_eq_getElem (by omega)] at h1
    obtain ⟨cs, hc, ht⟩ := Option.bind_eq_some_iff.1 h1
    obtain ⟨t, s, q, d, k, v, g, rfl, _⟩ := trod_ev ht
    have c0 := (World.cells?_some hc).2.2 0 (by omega)
    simpa [Addr.add] using World.cell?_spot c0
   subst hs
   have each : ∀ i, i < len → ∃ e : Ev, Ev.In w b (off + i * 7) e ∧ b < w.heap.size := by
    intro i hi
    have h1 := hel i hi
    rw [cells23, List.getElem?_eq_getElem (by omega), add_plain] at h1
    obtain ⟨cs, hc, ht⟩ := Option.bind_eq_some_iff.1 h1
    obtain ⟨t, s, q, d, k, v, g, rfl, _⟩ := trod_ev ht
    have hblk : b < w.heap.size := World.cells?_block hc (by omega)
    obtain ⟨_, _, hcell⟩ := World.cells?_some hc
    simp only [add_plain] at hcell
    exact ⟨⟨t, s, q, d, k, v, g⟩, ⟨hcell 0 (by omega), hcell 1 (by omega), hcell 2 (by omega), hcell 3 (by omega), hcell 4 (by omega), hcell 5 (by omega), hcell 6 (by omega)⟩, hblk⟩
   obtain ⟨_, _, hblk⟩ := each 0 (by omega)
   obtain ⟨l, rfl, hi⟩ := evs_list (w := w) (b := b) (off := off) len (fun i hi => by
    obtain ⟨e, he, _⟩ := each i hi
    exact ⟨e, he⟩)
   exact ⟨_, l, rfl, _, _, rfl, hl, hm, .inr ⟨b, off, rfl, hblk, hi⟩⟩
theorem os_list {w : World} {b off : Nat} : ∀ n, (∀ i, i < n → ∃ e : O, OAt w b (off + i * 4) e) → ∃ l : List O, l.length = n ∧ ∀ i, i < n → OAt w b (off + i * 4) (oAt l i)
 | 0, _ => ⟨[], rfl, fun i hi => by omega⟩
 | n + 1, h => by
  obtain ⟨l, hl, hi⟩ := os_list n (fun i hi => h i (by omega))
  obtain ⟨e, he⟩ := h n (by omega)
  refine ⟨l ++ [e], by simp [hl], fun i hi' => ?_⟩
  by_cases hin : i < n
  ·have : oAt (l ++ [e]) i = oAt l i := by unfold oAt; simp [List.getElem?_append_left (by omega : i < l.length)]
   rw [this]; exact hi i hin
  ·have : oAt (l ++ [e]) i = e := by unfold oAt; simp [show i = l.length by omega]
   rw [this, show i = n by omega]; exact he
set_option maxRecDepth 100000 in
theorem trod_ops {H : Type} {enc : TypeId × Value → H} {w : World} {spare : Nat → Bool} {held : Bool} {fuel : Nat} {cs : List Value} {x : DataW H × List MemPlace}
  (hf : DataW.trod enc Tryz.prog w 0 spare held fuel 186 cs = some x) : ∃ v l, cs = [v] ∧ IsO w v l := by
 rcases DataW.trod_slice Tryz.underlying186 hf with ⟨rfl, _⟩ | ⟨a, len, cap, elems, rest, n, _, rfl, _, hb, hl, hm, hlen, hel, _, _⟩
 ·exact ⟨_, [], rfl, none, 0, rfl, Nat.le_refl _, by unfold maxLen; omega, .inl rfl⟩
 ·by_cases h0 : len = 0
  ·subst h0
   exact ⟨_, [], rfl, _, _, rfl, hl, hm, .inl rfl⟩
  ·obtain ⟨b, off, spot⟩ := a
   have hs : spot = none := by
    have h1 := hel 0 (by omega)
    rw [cellsOp, List.getElem?_eq_getElem (by omega)] at h1
    obtain ⟨cs, hc, ht⟩ := Option.bind_eq_some_iff.1 h1
    obtain ⟨c, a, b, k, rfl, _⟩ := trod_op ht
    have c0 := (World.cells?_some hc).2.2 0 (by omega)
    simpa [Addr.add] using World.cell?_spot c0
   subst hs
   have each : ∀ i, i < len → ∃ e : O, OAt w b (off + i * 4) e ∧ b < w.heap.size := by
    intro i hi
    have h1 := hel i hi
    rw [cellsOp, List.getElem?_eq_getElem (by omega), add_plain] at h1
    obtain ⟨cs, hc, ht⟩ := Option.bind_eq_some_iff.1 h1
    obtain ⟨c, a, b', k, rfl, _⟩ := trod_op ht
    have hblk : b < w.heap.size := World.cells?_block hc (by omega)
    obtain ⟨_, _, hcell⟩ := World.cells?_some hc
    simp only [add_plain] at hcell
    exact ⟨⟨c, a, b', k⟩, ⟨hcell 0 (by omega), hcell 1 (by omega), hcell 2 (by omega), hcell 3 (by omega)⟩, hblk⟩
   obtain ⟨_, _, hblk⟩ := each 0 (by omega)
   obtain ⟨l, rfl, hi⟩ := os_list (w := w) (b := b) (off := off) len (fun i hi => by
    obtain ⟨e, he, _⟩ := each i hi
    exact ⟨e, he⟩)
   exact ⟨_, l, rfl, _, _, rfl, hl, hm, .inr ⟨b, off, rfl, hblk, hi⟩⟩
theorem hs_list {w : World} {b off : Nat} : ∀ n, (∀ i, i < n → ∃ u l, w.cell? ⟨b, off + i, none⟩ = some u ∧ IsO w u l) → ∃ l : List (List O), l.length = n ∧ ∀ i, i < n → ∃ u, w.cell? ⟨b, off + i, none⟩ = some u ∧ IsO w u (hAt l i)
 | 0, _ => ⟨[], rfl, fun i hi => by omega⟩
 | n + 1, h => by
  obtain ⟨l, hl, hi⟩ := hs_list n (fun i hi => h i (by omega))
  obtain ⟨u, r, hu, hr⟩ := h n (by omega)
  refine ⟨l ++ [r], by simp [hl], fun i hi' => ?_⟩
  by_cases hin : i < n
  ·have : hAt (l ++ [r]) i = hAt l i := by unfold hAt; simp [List.getElem?_append_left (by omega : i < l.length)]
   rw [this]; exact hi i hin
  ·have : hAt (l ++ [r]) i = r := by unfold hAt; simp [show i = l.length by omega]
   rw [this, show i = n by omega]; exact ⟨u, hu, hr⟩
set_option maxRecDepth 100000 in
theorem trod_hs {H : Type} {enc : TypeId × Value → H} {w : World} {spare : Nat → Bool} {held : Bool} {fuel : Nat} {cs : List Value} {x : DataW H × List MemPlace}
  (hf : DataW.trod enc Tryz.prog w 0 spare held fuel 23 cs = some x) : ∃ v l, cs = [v] ∧ IsH w v l := by
 rcases DataW.trod_slice Tryz.underlying23 hf with ⟨rfl, _⟩ | ⟨a, len, cap, elems, rest, n, _, rfl, _, hb, hl, hm, hlen, hel, _, _⟩
 ·exact ⟨_, [], rfl, none, 0, rfl, Nat.le_refl _, by unfold maxLen; omega, .inl rfl⟩
 ·by_cases h0 : len = 0
  ·subst h0
   exact ⟨_, [], rfl, _, _, rfl, hl, hm, .inl rfl⟩
  ·obtain ⟨b, off, spot⟩ := a
   have hs : spot = none := by
    have h1 := hel 0 (by omega)
    rw [cellsRow, List.getElem?_eq_getElem (by omega)] at h1
    obtain ⟨cs, hc, ht⟩ := Option.bind_eq_some_iff.1 h1
    obtain ⟨v, l, rfl, _⟩ := trod_ops ht
    have c0 := (World.cells?_some hc).2.2 0 (by omega)
    simpa [Addr.add] using World.cell?_spot c0
   subst hs
   have each : ∀ i, i < len → ∃ u l, (w.cell? ⟨b, off + i, none⟩ = some u ∧ IsO w u l) ∧ b < w.heap.size := by
    intro i hi
    have h1 := hel i hi
    rw [cellsRow, List.getElem?_eq_getElem (by omega), add_plain] at h1
    obtain ⟨cs, hc, ht⟩ := Option.bind_eq_some_iff.1 h1
    obtain ⟨v, l, rfl, hv⟩ := trod_ops ht
    have hblk : b < w.heap.size := World.cells?_block hc (by omega)
    obtain ⟨_, _, hcell⟩ := World.cells?_some hc
    have h2 := hcell 0 (by omega)
    simp only [add_plain] at h2
    exact ⟨v, l, ⟨by simpa using h2, hv⟩, hblk⟩
   obtain ⟨_, _, _, hblk⟩ := each 0 (by omega)
   obtain ⟨l, rfl, hi⟩ := hs_list (w := w) (b := b) (off := off) len (fun i hi => by
    obtain ⟨u, l, he, _⟩ := each i hi
    exact ⟨u, l, he⟩)
   exact ⟨_, l, rfl, _, _, rfl, hl, hm, .inr ⟨b, off, rfl, hblk, hi⟩⟩
end Go.Proofs.YtnlhcdchmgfipaaGreat
/- How a state that came in is read. -/
namespace Go.Proofs.YtnlhcdchmgfipaaGreat
open Go.ChangeShapes Go.WideShapes Go.ChangeAt Go.RowKit
theorem cellsS : Tryz.prog.cellsOf 132 = 3 := by kernel_rfl
theorem list3 {α : Type} {l : List α} (h : l.length = 3) : ∃ a b c, l = [a, b, c] := by
 match l, h with
 | [a, b, c], _ => exact ⟨a, b, c, rfl⟩
end Go.Proofs.YtnlhcdchmgfipaaGreat
/- How a part that came in is read. -/
namespace Go.Proofs.YtnlhcdchmgfipaaGreat
open Go.ChangeShapes Go.WideShapes Go.ChangeAt Go.RowKit
theorem cellsEm : Tryz.prog.cellsOf 156 = 3 := by kernel_rfl
theorem cellsEms : Tryz.prog.cellsOf 29 = 1 := by kernel_rfl
theorem cellsPs : Tryz.prog.cellsOf 217 = 12 := by kernel_rfl
theorem cellsPss : Tryz.prog.cellsOf 133 = 1 := by kernel_rfl
theorem cellsPa : Tryz.prog.cellsOf 135 = 7 := by kernel_rfl
theorem list12 {α : Type} {l : List α} (h : l.length = 12) : ∃ a0 a1 a2 a3 a4 a5 a6 a7 a8 a9 a10 a11, l = [a0, a1, a2, a3, a4, a5, a6, a7, a8, a9, a10, a11] := by
 match l, h with
 | [a0, a1, a2, a3, a4, a5, a6, a7, a8, a9, a10, a11], _ => exact ⟨a0, a1, a2, a3, a4, a5, a6, a7, a8, a9, a10, a11, rfl⟩
theorem list7p {α : Type} {l : List α} (h : l.length = 7) : ∃ a0 a1 a2 a3 a4 a5 a6, l = [a0, a1, a2, a3, a4, a5, a6] := by
 match l, h with
 | [a0, a1, a2, a3, a4, a5, a6], _ => exact ⟨a0, a1, a2, a3, a4, a5, a6, rfl⟩
theorem list5 {α : Type} {l : List α} (h : l.length = 5) : ∃ a0 a1 a2 a3 a4, l = [a0, a1, a2, a3, a4] := by
 match l, h with
 | [a0, a1, a2, a3, a4], _ => exact ⟨a0, a1, a2, a3, a4, rfl⟩
theorem list4p {α : Type} {l : List α} (h : l.length = 4) : ∃ a b c d, l = [a, b, c, d] := by
 match l, h with
 | [a, b, c, d], _ => exact ⟨a, b, c, d, rfl⟩
set_option maxRecDepth 100000 in
theorem trod_emit {H : Type} {enc : TypeId × Value → H} {w : World} {base : Nat} {spare : Nat → Bool} {held : Bool} {fuel : Nat} {cs : List Value} {x : DataW H × List MemPlace}
  (h : DataW.trod enc Tryz.prog w base spare held fuel 156 cs = some x) : ∃ t l v : Int, cs = [.int .i64 t, .int .i64 l, .int .i64 v] := by
 obtain ⟨xs, n, _, rfl, hl, hlen, hf⟩ := DataW.trod_struct Tryz.underlying156 h
 rw [cellsEm] at hl
 obtain ⟨c0, c1, c2, rfl⟩ := list3 hl
 have hx : xs.length = 3 := by simpa using hlen
 obtain ⟨y0, y1, y2, rfl⟩ := list3 hx
 have h0 := hf 0 _ rfl
 have h1 := hf 1 _ rfl
 have h2 := hf 2 _ rfl
 obtain ⟨a0, e0, _, w0⟩ := DataW.trod_int Tryz.underlying3 h0
 obtain ⟨a1, e1, _, w1⟩ := DataW.trod_int Tryz.underlying3 h1
 obtain ⟨a2, e2, _, w2⟩ := DataW.trod_int Tryz.underlying3 h2
 simp [cells3] at e0 e1 e2
 subst e0 e1 e2
 exact ⟨a0, a1, a2, rfl⟩
theorem xs_list {w : World} {b off : Nat} : ∀ n, (∀ i, i < n → ∃ e : Em, XAt w b (off + i * 3) e) → ∃ l : List Em, l.length = n ∧ ∀ i, i < n → XAt w b (off + i * 3) (xAt l i)
 | 0, _ => ⟨[], rfl, fun i hi => by omega⟩
 | n + 1, h => by
  obtain ⟨l, hl, hi⟩ := xs_list n (fun i hi => h i (by omega))
  obtain ⟨e, he⟩ := h n (by omega)
  refine ⟨l ++ [e], by simp [hl], fun i hi' => ?_⟩
  by_cases hin : i < n
  ·have : xAt (l ++ [e]) i = xAt l i := by unfold xAt; simp [List.getElem?_append_left (by omega : i < l.length)]
   rw [this]; exact hi i hin
  ·have : xAt (l ++ [e]) i = e := by unfold xAt; simp [show i = l.length by omega]
   rw [this, show i = n by omega]; exact he
set_option maxRecDepth 100000 in
theorem trod_ems {H : Type} {enc : TypeId × Value → H} {w : World} {spare : Nat → Bool} {held : Bool} {fuel : Nat} {cs : List Value} {x : DataW H × List MemPlace}
  (hf : DataW.trod enc Tryz.prog w 0 spare held fuel 29 cs = some x) : ∃ v l, cs = [v] ∧ IsX w v l := by
 rcases DataW.trod_slice Tryz.underlying29 hf with ⟨rfl, _⟩ | ⟨a, len, cap, elems, rest, n, _, rfl, _, hb, hl, hm, hlen, hel, _, _⟩
 ·exact ⟨_, [], rfl, none, 0, rfl, Nat.le_refl _, by unfold maxLen; omega, .inl rfl⟩
 ·by_cases h0 : len = 0
  ·subst h0
   exact ⟨_, [], rfl, _, _, rfl, hl, hm, .inl rfl⟩
  ·obtain ⟨b, off, spot⟩ := a
   have hs : spot = none := by
    have h1 := hel 0 (by omega)
    rw [cellsEm, List.getElem?_eq_getElem (by omega)] at h1
    obtain ⟨cs, hc, ht⟩ := Option.bind_eq_some_iff.1 h1
    obtain ⟨t, l, v, rfl⟩ := trod_emit ht
    have c0 := (World.cells?_some hc).2.2 0 (by omega)
    simpa [Addr.add] using World.cell?_spot c0
   subst hs
   have each : ∀ i, i < len → ∃ e : Em, XAt w b (off + i * 3) e ∧ b < w.heap.size := by
    intro i hi
    have h1 := hel i hi
    rw [cellsEm, List.getElem?_eq_getElem (by omega), add_plain] at h1
    obtain ⟨cs, hc, ht⟩ := Option.bind_eq_some_iff.1 h1
    obtain ⟨t, l, v, rfl⟩ := trod_emit ht
    have hblk : b < w.heap.size := World.cells?_block hc (by omega)
    obtain ⟨_, _, hcell⟩ := World.cells?_some hc
    simp only [add_plain] at hcell
    exact ⟨⟨t, l, v⟩, ⟨hcell 0 (by omega), hcell 1 (by omega), hcell 2 (by omega)⟩, hblk⟩
   obtain ⟨_, _, hblk⟩ := each 0 (by omega)
   obtain ⟨l, rfl, hi⟩ := xs_list (w := w) (b := b) (off := off) len (fun i hi => by
    obtain ⟨e, he, _⟩ := each i hi
    exact ⟨e, he⟩)
   exact ⟨_, l, rfl, _, _, rfl, hl, hm, .inr ⟨b, off, rfl, hblk, hi⟩⟩
set_option maxRecDepth 100000 in
theorem trod_state {H : Type} {enc : TypeId × Value → H} {w : World} {spare : Nat → Bool} {held : Bool} {fuel : Nat} {cs : List Value} {x : DataW H × List MemPlace}
  (h : DataW.trod enc Tryz.prog w 0 spare held fuel 132 cs = some x) : ∃ (s : St) (v : Value), cs = [v, .int .i64 s.q, .int .i64 s.d] ∧ IsI w v s.r := by
 obtain ⟨xs, n, _, _, hl, hlen, hf⟩ := DataW.trod_struct Tryz.underlying132 h
 rw [cellsS] at hl
 obtain ⟨c0, c1, c2, rfl⟩ := list3 hl
 have hx : xs.length = 3 := by simpa using hlen
 obtain ⟨y0, y1, y2, rfl⟩ := list3 hx
 have h0 := hf 0 _ rfl
 have h1 := hf 1 _ rfl
 have h2 := hf 2 _ rfl
 obtain ⟨v0, l0, e0, g0⟩ := trod_ints h0
 obtain ⟨a1, e1, _, _⟩ := DataW.trod_int Tryz.underlying3 h1
 obtain ⟨a2, e2, _, _⟩ := DataW.trod_int Tryz.underlying3 h2
 simp [cells3, cellsInts] at e0 e1 e2
 subst e0 e1 e2
 exact ⟨⟨l0, a1, a2⟩, c0, rfl, g0⟩
set_option maxRecDepth 100000 in
theorem trod_past {H : Type} {enc : TypeId × Value → H} {w : World} {spare : Nat → Bool} {held : Bool} {fuel : Nat} {cs : List Value} {x : DataW H × List MemPlace}
  (h : DataW.trod enc Tryz.prog w 0 spare held fuel 217 cs = some x) : ∃ (p : Ps) (u7 u10 u11 : Value), cs = [.int .i64 p.e.t, .int .i64 p.e.s, .int .i64 p.e.q, .int .i64 p.e.d, .int .i64 p.e.k, .int .i64 p.e.v, .int .i64 p.e.g, u7, .int .i64 p.b.q, .int .i64 p.b.d, u10, u11] ∧ IsD w u7 (intsD p.b.r) ∧ IsD w u10 (evsD p.s) ∧ IsD w u11 (emsD p.x) := by
 obtain ⟨xs, n, _, _, hl, hlen, hf⟩ := DataW.trod_struct Tryz.underlying217 h
 rw [cellsPs] at hl
 obtain ⟨c0, c1, c2, c3, c4, c5, c6, c7, c8, c9, c10, c11, rfl⟩ := list12 hl
 have hx : xs.length = 4 := by simpa using hlen
 obtain ⟨y0, y1, y2, y3, rfl⟩ := list4p hx
 have h0 := hf 0 _ rfl
 have h1 := hf 1 _ rfl
 have h2 := hf 2 _ rfl
 have h3 := hf 3 _ rfl
 obtain ⟨t, s, q, d, k, v, g, e0, _⟩ := trod_ev h0
 obtain ⟨st, v1, e1, g1⟩ := trod_state h1
 obtain ⟨v2, l2, e2, g2⟩ := trod_evs h2
 obtain ⟨v3, l3, e3, g3⟩ := trod_ems h3
 simp [cells23, cellsS, cellsEvs, cellsEms] at e0 e1 e2 e3
 obtain ⟨rfl, rfl, rfl, rfl, rfl, rfl, rfl⟩ := e0
 obtain ⟨rfl, rfl, rfl⟩ := e1
 subst e2 e3
 exact ⟨⟨⟨t, s, q, d, k, v, g⟩, st, l2, l3⟩, c7, c10, c11, rfl, g1.isD, g2.isD, g3.isD⟩
theorem ps_list {w : World} {b off : Nat} : ∀ n, (∀ i, i < n → ∃ p : Ps, ∀ r, r < 12 → ∃ u, w.cell? ⟨b, off + i * 12 + r, none⟩ = some u ∧ IsD w u (p.cell r)) →
  ∃ l : List Ps, l.length = n ∧ ∀ i, i < n → ∀ r, r < 12 → ∃ u, w.cell? ⟨b, off + i * 12 + r, none⟩ = some u ∧ IsD w u ((psAt l i).cell r)
 | 0, _ => ⟨[], rfl, fun i hi => by omega⟩
 | n + 1, h => by
  obtain ⟨l, hl, hi⟩ := ps_list n (fun i hi => h i (by omega))
  obtain ⟨e, he⟩ := h n (by omega)
  refine ⟨l ++ [e], by simp [hl], fun i hi' => ?_⟩
  by_cases hin : i < n
  ·have : psAt (l ++ [e]) i = psAt l i := by unfold psAt; simp [List.getElem?_append_left (by omega : i < l.length)]
   rw [this]; exact hi i hin
  ·have : psAt (l ++ [e]) i = e := by unfold psAt; simp [show i = l.length by omega]
   rw [this, show i = n by omega]; exact he
set_option maxRecDepth 100000 in
theorem trod_pasts {H : Type} {enc : TypeId × Value → H} {w : World} {spare : Nat → Bool} {held : Bool} {fuel : Nat} {cs : List Value} {x : DataW H × List MemPlace}
  (hf : DataW.trod enc Tryz.prog w 0 spare held fuel 133 cs = some x) : ∃ v l, cs = [v] ∧ IsD w v (pastsD l) := by
 rcases DataW.trod_slice Tryz.underlying133 hf with ⟨rfl, _⟩ | ⟨a, len, cap, elems, rest, n, _, rfl, _, hb, hl, hm, hlen, hel, _, _⟩
 ·exact ⟨_, [], rfl, .nil none 0 12 _ (by unfold maxLen; omega)⟩
 ·by_cases h0 : len = 0
  ·subst h0
   exact ⟨_, [], rfl, .nil _ _ 12 _ hm⟩
  ·obtain ⟨b, off, spot⟩ := a
   have hs : spot = none := by
    have h1 := hel 0 (by omega)
    rw [cellsPs, List.getElem?_eq_getElem (by omega)] at h1
    obtain ⟨cs, hc, ht⟩ := Option.bind_eq_some_iff.1 h1
    obtain ⟨p, u7, u10, u11, rfl, _⟩ := trod_past ht
    have c0 := (World.cells?_some hc).2.2 0 (by omega)
    simpa [Addr.add] using World.cell?_spot c0
   subst hs
   have each : ∀ i, i < len → ∃ p : Ps, (∀ r, r < 12 → ∃ u, w.cell? ⟨b, off + i * 12 + r, none⟩ = some u ∧ IsD w u (p.cell r)) ∧ b < w.heap.size := by
    intro i hi
    have h1 := hel i hi
    rw [cellsPs, List.getElem?_eq_getElem (by omega), add_plain] at h1
    obtain ⟨cs, hc, ht⟩ := Option.bind_eq_some_iff.1 h1
    obtain ⟨p, u7, u10, u11, rfl, g7, g10, g11⟩ := trod_past ht
    have hblk : b < w.heap.size := World.cells?_block hc (by omega)
    obtain ⟨_, _, hcell⟩ := World.cells?_some hc
    simp only [add_plain] at hcell
    refine ⟨p, fun r hr => ?_, hblk⟩
    have hcr := hcell r hr
    match r, hr, hcr with
    | 0, _, hcr => exact ⟨_, hcr, .val _⟩
    | 1, _, hcr => exact ⟨_, hcr, .val _⟩
    | 2, _, hcr => exact ⟨_, hcr, .val _⟩
    | 3, _, hcr => exact ⟨_, hcr, .val _⟩
    | 4, _, hcr => exact ⟨_, hcr, .val _⟩
    | 5, _, hcr => exact ⟨_, hcr, .val _⟩
    | 6, _, hcr => exact ⟨_, hcr, .val _⟩
    | 7, _, hcr => exact ⟨_, hcr, g7⟩
    | 8, _, hcr => exact ⟨_, hcr, .val _⟩
    | 9, _, hcr => exact ⟨_, hcr, .val _⟩
    | 10, _, hcr => exact ⟨_, hcr, g10⟩
    | 11, _, hcr => exact ⟨_, hcr, g11⟩
   obtain ⟨_, _, hblk⟩ := each 0 (by omega)
   obtain ⟨l, rfl, hi⟩ := ps_list (w := w) (b := b) (off := off) len (fun i hi => by
    obtain ⟨e, he, _⟩ := each i hi
    exact ⟨e, he⟩)
   refine ⟨_, l, rfl, IsD.of_parts hl hm (.inr ⟨b, off, rfl, hblk, fun j hj => ?_⟩)⟩
   obtain ⟨u, hu, hd⟩ := hi (j / 12) (by omega) (j % 12) (by omega)
   refine ⟨u, ?_, hd⟩
   rw [← hu]
   congr 2
   omega
end Go.Proofs.YtnlhcdchmgfipaaGreat
