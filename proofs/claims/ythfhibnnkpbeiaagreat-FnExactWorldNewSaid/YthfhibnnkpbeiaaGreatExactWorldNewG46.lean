/- WEq, OpenS, VOpen, MOpen -/
import Derived.Test.YthfhibnnkpbeiaaGreatExactWorldNewG27
import Derived.Test.YthfhibnnkpbeiaaGreatExactWorldNewG45
import Derived.Deep.RegionHeld3
import Derived.Test.YthfhibnnkpbeiaaGreatExactWorldNewG25
import Derived.Test.YthfhibnnkpbeiaaGreatExactWorldNewG01
import Derived.ProofKit
import Derived.ChangeOld
import Derived.OpenShut
import Derived.SizedLaws
import Derived.Test.YthfhibnnkpbeiaaGreatExactWorldNewG02
/- Two worlds alike. -/
namespace Go.Proofs.YthfhibnnkpbeiaaGreat
open Go.RowKit
theorem hidWEq {p : Prop} (h : p) : Hid p := h
set_option maxRecDepth 100000 in
set_option maxHeartbeats 8000000 in
theorem eq_kernels (x y : Value) (l : List Kn) (w : World) (hl : SmallKs l) (hx : IsKs w x l) (hy : IsKs w y l) :
  Calls Tryz.prog 56 #[x, y] w fun e w' => e = .returned (.bool true) ∧ Below w.heap.size w w' := by
 obtain ⟨a, cap, rfl, h1, h2, h⟩ := hx
 obtain ⟨a', cap', rfl, h1', h2', h'⟩ := hy
 have HS : Hid (SmallKs l) := hl
 have hl2 : l.length ≤ 1048576 := hl.1
 clear h1 h2 h1' h2' hl
 go_enter Tryz.func56, Tryz.ntmps56
 go_wp2
 go_loopw [5] (fun i wr => ∃ k : Nat, k ≤ l.length ∧ i = .int .i64 k ∧ Below w.heap.size w wr) (fun i _ => l.length - (intOf i).toNat)
 case atStart => exact ⟨0, Nat.zero_le _, rfl, Below.refl _ _⟩
 case round =>
  obtain ⟨k, hk, rfl, hB⟩ := hrel
  have HB := hidWEq hB
  by_cases hlt : k < l.length
  ·obtain ⟨b, off, rfl, hb, hc⟩ := h.resolve_left (by omega)
   obtain ⟨b', off', rfl, hb', hc'⟩ := h'.resolve_left (by omega)
   obtain ⟨vi, vh, vs, u6, u7, u8, u12, u13, ⟨f0, f1, f2, f3, f4, f5, f6, f7, f8, f9, f10, f11, f12, f13⟩, hD⟩ := (hc k hlt).under hb hB
   obtain ⟨xvi, xvh, xvs, xu6, xu7, xu8, xu12, xu13, ⟨e0, e1, e2, e3, e4, e5, e6, e7, e8, e9, e10, e11, e12, e13⟩, hG⟩ := (hc' k hlt).under hb' hB
   have HD := hidWEq (hD.under (Below.refl _ wr).drew)
   have HG := hidWEq (hG.under (Below.refl _ wr).drew)
   have HW : Hid (SmallK (knAt l k)) := HS.out.2 k hlt
   have hbr : b < wr.heap.size := Nat.lt_of_lt_of_le hb hB.size
   have hbr' : b' < wr.heap.size := Nat.lt_of_lt_of_le hb' hB.size
   clear hB hc hc' h h' hD hG
   go_wp2_with fail
   go_region_held3 (fun W => W.cell? ⟨b, off + k * 14, none⟩ = some (.int .i64 (knAt l k).m.n) ∧ W.cell? ⟨b, off + k * 14 + 1, none⟩ = some (.int .i64 (knAt l k).m.s) ∧ W.cell? ⟨b, off + k * 14 + 2, none⟩ = some (vi) ∧ W.cell? ⟨b, off + k * 14 + 3, none⟩ = some (vh) ∧ W.cell? ⟨b, off + k * 14 + 4, none⟩ = some (vs) ∧ W.cell? ⟨b, off + k * 14 + 5, none⟩ = some (.int .i64 (knAt l k).m.z) ∧ W.cell? ⟨b, off + k * 14 + 6, none⟩ = some (u6) ∧ W.cell? ⟨b, off + k * 14 + 7, none⟩ = some (u7) ∧ W.cell? ⟨b, off + k * 14 + 8, none⟩ = some (u8) ∧ W.cell? ⟨b, off + k * 14 + 9, none⟩ = some (.int .i64 (knAt l k).t) ∧ W.cell? ⟨b, off + k * 14 + 10, none⟩ = some (.int .i64 (knAt l k).q) ∧ W.cell? ⟨b, off + k * 14 + 11, none⟩ = some (.bool (knAt l k).f) ∧ W.cell? ⟨b, off + k * 14 + 12, none⟩ = some (u12) ∧ W.cell? ⟨b, off + k * 14 + 13, none⟩ = some (u13) ∧ W.cell? ⟨b', off' + k * 14, none⟩ = some (.int .i64 (knAt l k).m.n) ∧ W.cell? ⟨b', off' + k * 14 + 1, none⟩ = some (.int .i64 (knAt l k).m.s) ∧ W.cell? ⟨b', off' + k * 14 + 2, none⟩ = some (xvi) ∧ W.cell? ⟨b', off' + k * 14 + 3, none⟩ = some (xvh) ∧ W.cell? ⟨b', off' + k * 14 + 4, none⟩ = some (xvs) ∧ W.cell? ⟨b', off' + k * 14 + 5, none⟩ = some (.int .i64 (knAt l k).m.z) ∧ W.cell? ⟨b', off' + k * 14 + 6, none⟩ = some (xu6) ∧ W.cell? ⟨b', off' + k * 14 + 7, none⟩ = some (xu7) ∧ W.cell? ⟨b', off' + k * 14 + 8, none⟩ = some (xu8) ∧ W.cell? ⟨b', off' + k * 14 + 9, none⟩ = some (.int .i64 (knAt l k).t) ∧ W.cell? ⟨b', off' + k * 14 + 10, none⟩ = some (.int .i64 (knAt l k).q) ∧ W.cell? ⟨b', off' + k * 14 + 11, none⟩ = some (.bool (knAt l k).f) ∧ W.cell? ⟨b', off' + k * 14 + 12, none⟩ = some (xu12) ∧ W.cell? ⟨b', off' + k * 14 + 13, none⟩ = some (xu13)) ((repeat' apply And.intro) <;> first | (go_keep; done) | (rw [hcA _ _ (by first | omega | (simp; omega) | simp [*])]; simp [*]; done))
    (first | (go_at_call 10; refine (eqKernel_same _ _ (knAt l k) _ HW.out HD.out HG.out).mono ?_; rintro e w2 ⟨rfl, hb2⟩; obtain ⟨hcA, hfA⟩ := bcell hb2))
   clear hcA hfA
   go_wp2
   go_roundw
   case rel => exact ⟨k + 1, by omega, by go_num, HB.out.drew.trans (hb2.mono (by have := HB.out.size; simpa using this))⟩
   case measure => simp [intOf]; omega
  ·clear hB h h'
   go_wp2
   go_ret
   exact ⟨rfl, HB.out⟩
set_option maxHeartbeats 8000000 in
theorem eq_vecs (x y : Value) (l : List (List Int)) (w : World) (hl : (vecsD l).wt ≤ 1048576) (hx : IsD w x (vecsD l)) (hy : IsD w y (vecsD l)) :
  Calls Tryz.prog 57 #[x, y] w fun e w' => e = .returned (.bool true) ∧ Below w.heap.size w w' := by
 obtain ⟨a, cap, rfl, h1, h2, h⟩ := IsD.parts (c := 1) (n := l.length) hx
 obtain ⟨a', cap', rfl, h1', h2', h'⟩ := IsD.parts (c := 1) (n := l.length) hy
 have HS := hidWEq hl
 have hl2 : l.length ≤ 1048576 := by rw [vecs_wt] at hl; omega
 clear h1 h2 h1' h2' hx hy hl
 go_enter Tryz.func57, Tryz.ntmps57
 go_wp2
 go_loopw [5] (fun i wr => ∃ k : Nat, k ≤ l.length ∧ i = .int .i64 k ∧ Below w.heap.size w wr) (fun i _ => l.length - (intOf i).toNat)
 case atStart => exact ⟨0, Nat.zero_le _, rfl, Below.refl _ _⟩
 case round =>
  obtain ⟨k, hk, rfl, hB⟩ := hrel
  have HB := hidWEq hB
  by_cases hlt : k < l.length
  ·obtain ⟨b, off, rfl, hb, hc⟩ := h.resolve_left (by omega)
   obtain ⟨b', off', rfl, hb', hc'⟩ := h'.resolve_left (by omega)
   obtain ⟨u, hu, hd⟩ := hc k (by omega)
   obtain ⟨v, hv, hg⟩ := hc' k (by omega)
   have f0 := (hB.cell (p := ⟨b, off + k, none⟩) hb).trans hu
   have e0 := (hB.cell (p := ⟨b', off' + k, none⟩) hb').trans hv
   have HD := hidWEq ((hd.under hB).under (Below.refl _ wr).drew)
   have HG := hidWEq ((hg.under hB).under (Below.refl _ wr).drew)
   have HW := hidWEq (Nat.le_trans (vec_le hlt) HS.out)
   have hbr : b < wr.heap.size := Nat.lt_of_lt_of_le hb hB.size
   have hbr' : b' < wr.heap.size := Nat.lt_of_lt_of_le hb' hB.size
   clear hB hc hc' h h' hd hg hu hv
   go_wp2_with fail
   go_region_held3 (fun W => W.cell? ⟨b, off + k, none⟩ = some u ∧ W.cell? ⟨b', off' + k, none⟩ = some v) ((repeat' apply And.intro) <;> first | (go_keep; done) | (rw [hcA _ _ (by first | omega | (simp; omega) | simp [*])]; simp [*]; done))
    (first | (go_at_call 12; refine (eq_ints _ _ (vAt l k) _ HW.out HD.out HG.out).mono ?_; rintro e w2 ⟨rfl, hb2⟩; obtain ⟨hcA, hfA⟩ := bcell hb2))
   clear hcA hfA
   go_wp2
   go_roundw
   case rel => exact ⟨k + 1, by omega, by go_num, HB.out.drew.trans (hb2.mono (by have := HB.out.size; simpa using this))⟩
   case measure => simp [intOf]; omega
  ·clear hB h h'
   go_wp2
   go_ret
   exact ⟨rfl, HB.out⟩
set_option maxRecDepth 100000 in
set_option maxHeartbeats 4000000 in
theorem eqWorld_same (x y : Value) (v : Wd) (w : World) (hs : SmallWd v) (hx : IsW w x v) (hy : IsW w y v) :
  Calls Tryz.prog 19 #[x, y] w fun e w' => e = .returned (.bool true) ∧ Below w.heap.size w w' := by
 obtain ⟨vi, vh, vs, uk, uc, rfl, hm, hk, hc⟩ := hx
 obtain ⟨xvi, xvh, xvs, xuk, xuc, rfl, jm, jk, jc⟩ := hy
 have HS : Hid (SmallWd v) := hs
 have HM : Hid (IsM w (.agg #[.int .i64 v.m.n, .int .i64 v.m.s, vi, vh, vs, .int .i64 v.m.z]) v.m ∧ IsM w (.agg #[.int .i64 v.m.n, .int .i64 v.m.s, xvi, xvh, xvs, .int .i64 v.m.z]) v.m) := ⟨hm, jm⟩
 have HK : Hid (IsKs w uk v.k ∧ IsKs w xuk v.k) := ⟨hk, jk⟩
 have HC : Hid (IsD w uc (vecsD v.c) ∧ IsD w xuc (vecsD v.c)) := ⟨hc, jc⟩
 clear hs hm jm hk jk hc jc
 obtain ⟨W0, hW0⟩ : ∃ W0, (w.alloc (.cells #[.int .i64 v.m.n, .int .i64 v.m.s, vi, vh, vs, .int .i64 v.m.z, uk, uc] 51)).alloc (.cells #[.int .i64 v.m.n, .int .i64 v.m.s, xvi, xvh, xvs, .int .i64 v.m.z, xuk, xuc] 51) = W0 := ⟨_, rfl⟩
 have HB0 : Hid (Below w.heap.size w W0) := by rw [← hW0]; exact ((Below.refl _ w).alloc (Nat.le_refl _) _).alloc (by simp) _
 have HP0 : Hid (Bk W0 w.heap.size 51 #[.int .i64 v.m.n, .int .i64 v.m.s, vi, vh, vs, .int .i64 v.m.z, uk, uc]) := by rw [← hW0]; exact (Bk.new w _ _).alloc _
 have HQ0 : Hid (Bk W0 (w.heap.size + 1) 51 #[.int .i64 v.m.n, .int .i64 v.m.s, xvi, xvh, xvs, .int .i64 v.m.z, xuk, xuc]) := by rw [← hW0]; exact Bk.newAt (by simp) _ _
 have HW := hidWEq hW0
 clear hW0
 go_enter Tryz.func19, Tryz.ntmps19
 have p0 := HP0.out.cell (i := 0) rfl
 have q0 := HQ0.out.cell (i := 0) rfl
 have p1 := HP0.out.cell (i := 1) rfl
 have q1 := HQ0.out.cell (i := 1) rfl
 have p2 := HP0.out.cell (i := 2) rfl
 have q2 := HQ0.out.cell (i := 2) rfl
 have p3 := HP0.out.cell (i := 3) rfl
 have q3 := HQ0.out.cell (i := 3) rfl
 have p4 := HP0.out.cell (i := 4) rfl
 have q4 := HQ0.out.cell (i := 4) rfl
 have p5 := HP0.out.cell (i := 5) rfl
 have q5 := HQ0.out.cell (i := 5) rfl
 go_wp2_with fail
 rw [HW.out]
 clear HW p0 q0 p1 q1 p2 q2 p3 q3 p4 q4 p5 q5
 refine (eqModel_same _ _ v.m _ HS.out.1 (HM.out.1.below HB0.out) (HM.out.2.below HB0.out)).mono ?_
 rintro e w1 ⟨rfl, hb⟩
 have HB1 := hidWEq (HB0.out.trans (hb.mono HB0.out.size))
 have p6 := (HP0.out.below hb).cell (i := 6) rfl
 have q6 := (HQ0.out.below hb).cell (i := 6) rfl
 have HP1 := hidWEq (HP0.out.below hb)
 have HQ1 := hidWEq (HQ0.out.below hb)
 clear hb
 go_wp2_with fail
 clear p6 q6
 refine (eq_kernels _ _ v.k _ HS.out.2.1 (HK.out.1.under HB1.out) (HK.out.2.under HB1.out)).mono ?_
 rintro e w2 ⟨rfl, hb⟩
 have HB2 := hidWEq (HB1.out.trans (hb.mono HB1.out.size))
 have p7 := (HP1.out.below hb).cell (i := 7) rfl
 have q7 := (HQ1.out.below hb).cell (i := 7) rfl
 clear hb
 go_wp2_with fail
 clear p7 q7
 refine (eq_vecs _ _ v.c _ HS.out.2.2 (HC.out.1.under HB2.out) (HC.out.2.under HB2.out)).mono ?_
 rintro e w3 ⟨rfl, hb⟩
 have HB3 := hidWEq (HB2.out.trans (hb.mono HB2.out.size))
 clear hb
 go_wp2
 go_ret
 exact ⟨rfl, HB3.out⟩
end Go.Proofs.YthfhibnnkpbeiaaGreat

/- How a list of events that came in is read. -/
namespace Go.Proofs.YthfhibnnkpbeiaaGreat
open Go.ChangeShapes Go.WideShapes Go.ChangeAt Go.RowKit
theorem evs_list {w : World} {b off : Nat} : ∀ n, (∀ i, i < n → ∃ e : Ev, Ev.In w b (off + i * 7) e) → ∃ l : List Ev, l.length = n ∧ ∀ i, i < n → Ev.In w b (off + i * 7) (evAt l i)
 | 0, _ => ⟨[], rfl, fun i hi => by omega⟩
 | n + 1, h => by
  obtain ⟨l, hl, hi⟩ := evs_list n (fun i hi => h i (by omega))
  obtain ⟨e, he⟩ := h n (by omega)
  refine ⟨l ++ [e], by simp [hl], fun i hi' => ?_⟩
  by_cases hin : i < n
  ·have : evAt (l ++ [e]) i = evAt l i := by unfold evAt; simp [List.getElem?_append_left (by omega : i < l.length)]
   rw [this]; exact hi i hin
  ·have : evAt (l ++ [e]) i = e := by unfold evAt; simp [show i = l.length by omega]
   rw [this, show i = n by omega]; exact he
theorem add_plain (b off n : Nat) : (⟨b, off, none⟩ : Addr).add n = ⟨b, off + n, none⟩ := by
 unfold Addr.add
 split <;> simp_all
end Go.Proofs.YthfhibnnkpbeiaaGreat

/- How a list of numbers that came in is read. -/
namespace Go.Proofs.YthfhibnnkpbeiaaGreat
open Go.ChangeShapes Go.WideShapes Go.ChangeAt Go.RowKit
theorem ints_list {w : World} {b off : Nat} : ∀ n, (∀ i, i < n → ∃ z : Int, w.cell? ⟨b, off + i, none⟩ = some (.int .i64 z)) → ∃ l : List Int, l.length = n ∧ ∀ i, i < n → w.cell? ⟨b, off + i, none⟩ = some (.int .i64 (intAt l i))
 | 0, _ => ⟨[], rfl, fun i hi => by omega⟩
 | n + 1, h => by
  obtain ⟨l, hl, hi⟩ := ints_list n (fun i hi => h i (by omega))
  obtain ⟨e, he⟩ := h n (by omega)
  refine ⟨l ++ [e], by simp [hl], fun i hi' => ?_⟩
  by_cases hin : i < n
  ·have : intAt (l ++ [e]) i = intAt l i := by unfold intAt; simp [List.getElem?_append_left (by omega : i < l.length)]
   rw [this]; exact hi i hin
  ·have : intAt (l ++ [e]) i = e := by unfold intAt; simp [show i = l.length by omega]
   rw [this, show i = n by omega]; exact he
end Go.Proofs.YthfhibnnkpbeiaaGreat

/- How a model that came in is read. -/
namespace Go.Proofs.YthfhibnnkpbeiaaGreat
open Go.ChangeShapes Go.WideShapes Go.ChangeAt Go.RowKit
theorem cellsOp : Tryz.prog.cellsOf 137 = 4 := by kernel_rfl
theorem cellsRow : Tryz.prog.cellsOf 93 = 1 := by kernel_rfl
theorem cellsRows : Tryz.prog.cellsOf 23 = 1 := by kernel_rfl
theorem cellsInts : Tryz.prog.cellsOf 22 = 1 := by kernel_rfl
theorem cellsEvs : Tryz.prog.cellsOf 24 = 1 := by kernel_rfl
theorem cellsM : Tryz.prog.cellsOf 26 = 6 := by kernel_rfl
theorem list4 {α : Type} {l : List α} (h : l.length = 4) : ∃ a b c d, l = [a, b, c, d] := by
 match l, h with
 | [a, b, c, d], _ => exact ⟨a, b, c, d, rfl⟩
theorem list6 {α : Type} {l : List α} (h : l.length = 6) : ∃ a b c d e f, l = [a, b, c, d, e, f] := by
 match l, h with
 | [a, b, c, d, e, f], _ => exact ⟨a, b, c, d, e, f, rfl⟩
set_option maxRecDepth 100000 in
theorem trod_op {H : Type} {enc : TypeId × Value → H} {w : World} {base : Nat} {spare : Nat → Bool} {held : Bool} {fuel : Nat} {cs : List Value} {x : DataW H × List MemPlace}
  (h : DataW.trod enc Tryz.prog w base spare held fuel 137 cs = some x) : ∃ c a b k : Int, cs = [.int .i64 c, .int .i64 a, .int .i64 b, .int .i64 k] ∧ wfI c ∧ wfI a ∧ wfI b ∧ wfI k := by
 obtain ⟨xs, n, _, rfl, hl, hlen, hf⟩ := DataW.trod_struct Tryz.underlying137 h
 rw [cellsOp] at hl
 obtain ⟨c0, c1, c2, c3, rfl⟩ := list4 hl
 have hx : xs.length = 4 := by simpa using hlen
 obtain ⟨y0, y1, y2, y3, rfl⟩ := list4 hx
 have h0 := hf 0 _ rfl
 have h1 := hf 1 _ rfl
 have h2 := hf 2 _ rfl
 have h3 := hf 3 _ rfl
 obtain ⟨a0, e0, _, w0⟩ := DataW.trod_int Tryz.underlying3 h0
 obtain ⟨a1, e1, _, w1⟩ := DataW.trod_int Tryz.underlying3 h1
 obtain ⟨a2, e2, _, w2⟩ := DataW.trod_int Tryz.underlying3 h2
 obtain ⟨a3, e3, _, w3⟩ := DataW.trod_int Tryz.underlying3 h3
 simp [cells3] at e0 e1 e2 e3
 subst e0 e1 e2 e3
 exact ⟨a0, a1, a2, a3, rfl, w0, w1, w2, w3⟩
set_option maxRecDepth 100000 in
theorem trod_ints {H : Type} {enc : TypeId × Value → H} {w : World} {spare : Nat → Bool} {held : Bool} {fuel : Nat} {cs : List Value} {x : DataW H × List MemPlace}
  (hf : DataW.trod enc Tryz.prog w 0 spare held fuel 22 cs = some x) : ∃ v l, cs = [v] ∧ IsI w v l := by
 rcases DataW.trod_slice Tryz.underlying22 hf with ⟨rfl, _⟩ | ⟨a, len, cap, elems, rest, n, _, rfl, _, hb, hl, hm, hlen, hel, _, _⟩
 ·exact ⟨_, [], rfl, none, 0, rfl, Nat.le_refl _, by unfold maxLen; omega, .inl rfl⟩
 ·by_cases h0 : len = 0
  ·subst h0
   exact ⟨_, [], rfl, _, _, rfl, hl, hm, .inl rfl⟩
  ·obtain ⟨b, off, spot⟩ := a
   have hs : spot = none := by
    have h1 := hel 0 (by omega)
    rw [cells3, List.getElem?_eq_getElem (by omega)] at h1
    obtain ⟨cs, hc, ht⟩ := Option.bind_eq_some_iff.1 h1
    obtain ⟨t, rfl, _⟩ := DataW.trod_int Tryz.underlying3 ht
    have c0 := (World.cells?_some hc).2.2 0 (by omega)
    simpa [Addr.add] using World.cell?_spot c0
   subst hs
   have each : ∀ i, i < len → ∃ z : Int, w.cell? ⟨b, off + i, none⟩ = some (.int .i64 z) ∧ b < w.heap.size := by
    intro i hi
    have h1 := hel i hi
    rw [cells3, List.getElem?_eq_getElem (by omega), add_plain] at h1
    obtain ⟨cs, hc, ht⟩ := Option.bind_eq_some_iff.1 h1
    obtain ⟨t, rfl, _, hw⟩ := DataW.trod_int Tryz.underlying3 ht
    have hblk : b < w.heap.size := World.cells?_block hc (by omega)
    obtain ⟨_, _, hcell⟩ := World.cells?_some hc
    have h2 := hcell 0 (by omega)
    simp only [add_plain] at h2
    exact ⟨t, by simpa using h2, hblk⟩
   obtain ⟨_, _, hblk⟩ := each 0 (by omega)
   obtain ⟨l, rfl, hi⟩ := ints_list (w := w) (b := b) (off := off) len (fun i hi => by
    obtain ⟨e, he, _⟩ := each i hi
    exact ⟨e, he⟩)
   exact ⟨_, l, rfl, _, _, rfl, hl, hm, .inr ⟨b, off, rfl, hblk, hi⟩⟩
set_option maxRecDepth 100000 in
theorem trod_evs {H : Type} {enc : TypeId × Value → H} {w : World} {spare : Nat → Bool} {held : Bool} {fuel : Nat} {cs : List Value} {x : DataW H × List MemPlace}
  (hf : DataW.trod enc Tryz.prog w 0 spare held fuel 24 cs = some x) : ∃ v l, cs = [v] ∧ IsEvs w v l := by
 rcases DataW.trod_slice Tryz.underlying24 hf with ⟨rfl, _⟩ | ⟨a, len, cap, elems, rest, n, _, rfl, _, hb, hl, hm, hlen, hel, _, _⟩
 ·exact ⟨_, [], rfl, none, 0, rfl, Nat.le_refl _, by unfold maxLen; omega, .inl rfl⟩
 ·by_cases h0 : len = 0
  ·subst h0
   exact ⟨_, [], rfl, _, _, rfl, hl, hm, .inl rfl⟩
  ·obtain ⟨b, off, spot⟩ := a
   have hs : spot = none := by
    have h1 := hel 0 (by omega)
    rw [cells23, List.getElem?_eq_getElem (by omega)] at h1
    obtain ⟨cs, hc, ht⟩ := Option.bind_eq_some_iff.1 h1
    obtain ⟨t, s, q, d, k, v, g, rfl, _⟩ := trod_ev ht
    have c0 := (World.cells?_some hc).2.2 0 (by omega)
    simpa [Addr.add] using World.cell?_spot c0
   subst hs
   have each : ∀ i, i < len → ∃ e : Ev, Ev.In w b (off + i * 7) e ∧ b < w.heap.size := by
    intro i hi
    have h1 := hel i hi
    rw [cells23, List.getElem?_eq_getElem (by omega), add_plain] at h1
    obtain ⟨cs, hc, ht⟩ := Option.bind_eq_some_iff.1 h1
    obtain ⟨t, s, q, d, k, v, g, rfl, _⟩ := trod_ev ht
    have hblk : b < w.heap.size := World.cells?_block hc (by omega)
    obtain ⟨_, _, hcell⟩ := World.cells?_some hc
    simp only [add_plain] at hcell
    exact ⟨⟨t, s, q, d, k, v, g⟩, ⟨hcell 0 (by omega), hcell 1 (by omega), hcell 2 (by omega), hcell 3 (by omega), hcell 4 (by omega), hcell 5 (by omega), hcell 6 (by omega)⟩, hblk⟩
   obtain ⟨_, _, hblk⟩ := each 0 (by omega)
   obtain ⟨l, rfl, hi⟩ := evs_list (w := w) (b := b) (off := off) len (fun i hi => by
    obtain ⟨e, he, _⟩ := each i hi
    exact ⟨e, he⟩)
   exact ⟨_, l, rfl, _, _, rfl, hl, hm, .inr ⟨b, off, rfl, hblk, hi⟩⟩
theorem os_list {w : World} {b off : Nat} : ∀ n, (∀ i, i < n → ∃ e : O, OAt w b (off + i * 4) e) → ∃ l : List O, l.length = n ∧ ∀ i, i < n → OAt w b (off + i * 4) (oAt l i)
 | 0, _ => ⟨[], rfl, fun i hi => by omega⟩
 | n + 1, h => by
  obtain ⟨l, hl, hi⟩ := os_list n (fun i hi => h i (by omega))
  obtain ⟨e, he⟩ := h n (by omega)
  refine ⟨l ++ [e], by simp [hl], fun i hi' => ?_⟩
  by_cases hin : i < n
  ·have : oAt (l ++ [e]) i = oAt l i := by unfold oAt; simp [List.getElem?_append_left (by omega : i < l.length)]
   rw [this]; exact hi i hin
  ·have : oAt (l ++ [e]) i = e := by unfold oAt; simp [show i = l.length by omega]
   rw [this, show i = n by omega]; exact he
set_option maxRecDepth 100000 in
theorem trod_ops {H : Type} {enc : TypeId × Value → H} {w : World} {spare : Nat → Bool} {held : Bool} {fuel : Nat} {cs : List Value} {x : DataW H × List MemPlace}
  (hf : DataW.trod enc Tryz.prog w 0 spare held fuel 93 cs = some x) : ∃ v l, cs = [v] ∧ IsO w v l := by
 rcases DataW.trod_slice Tryz.underlying93 hf with ⟨rfl, _⟩ | ⟨a, len, cap, elems, rest, n, _, rfl, _, hb, hl, hm, hlen, hel, _, _⟩
 ·exact ⟨_, [], rfl, none, 0, rfl, Nat.le_refl _, by unfold maxLen; omega, .inl rfl⟩
 ·by_cases h0 : len = 0
  ·subst h0
   exact ⟨_, [], rfl, _, _, rfl, hl, hm, .inl rfl⟩
  ·obtain ⟨b, off, spot⟩ := a
   have hs : spot = none := by
    have h1 := hel 0 (by omega)
    rw [cellsOp, List.getElem?_eq_getElem (by omega)] at h1
    obtain ⟨cs, hc, ht⟩ := Option.bind_eq_some_iff.1 h1
    obtain ⟨c, a, b, k, rfl, _⟩ := trod_op ht
    have c0 := (World.cells?_some hc).2.2 0 (by omega)
    simpa [Addr.add] using World.cell?_spot c0
   subst hs
   have each : ∀ i, i < len → ∃ e : O, OAt w b (off + i * 4) e ∧ b < w.heap.size := by
    intro i hi
    have h1 := hel i hi
    rw [cellsOp, List.getElem?_eq_getElem (by omega), add_plain] at h1
    obtain ⟨cs, hc, ht⟩ := Option.bind_eq_some_iff.1 h1
    obtain ⟨c, a, b', k, rfl, _⟩ := trod_op ht
    have hblk : b < w.heap.size := World.cells?_block hc (by omega)
    obtain ⟨_, _, hcell⟩ := World.cells?_some hc
    simp only [add_plain] at hcell
    exact ⟨⟨c, a, b', k⟩, ⟨hcell 0 (by omega), hcell 1 (by omega), hcell 2 (by omega), hcell 3 (by omega)⟩, hblk⟩
   obtain ⟨_, _, hblk⟩ := each 0 (by omega)
   obtain ⟨l, rfl, hi⟩ := os_list (w := w) (b := b) (off := off) len (fun i hi => by
    obtain ⟨e, he, _⟩ := each i hi
    exact ⟨e, he⟩)
   exact ⟨_, l, rfl, _, _, rfl, hl, hm, .inr ⟨b, off, rfl, hblk, hi⟩⟩
theorem hs_list {w : World} {b off : Nat} : ∀ n, (∀ i, i < n → ∃ u l, w.cell? ⟨b, off + i, none⟩ = some u ∧ IsO w u l) → ∃ l : List (List O), l.length = n ∧ ∀ i, i < n → ∃ u, w.cell? ⟨b, off + i, none⟩ = some u ∧ IsO w u (hAt l i)
 | 0, _ => ⟨[], rfl, fun i hi => by omega⟩
 | n + 1, h => by
  obtain ⟨l, hl, hi⟩ := hs_list n (fun i hi => h i (by omega))
  obtain ⟨u, r, hu, hr⟩ := h n (by omega)
  refine ⟨l ++ [r], by simp [hl], fun i hi' => ?_⟩
  by_cases hin : i < n
  ·have : hAt (l ++ [r]) i = hAt l i := by unfold hAt; simp [List.getElem?_append_left (by omega : i < l.length)]
   rw [this]; exact hi i hin
  ·have : hAt (l ++ [r]) i = r := by unfold hAt; simp [show i = l.length by omega]
   rw [this, show i = n by omega]; exact ⟨u, hu, hr⟩
set_option maxRecDepth 100000 in
theorem trod_hs {H : Type} {enc : TypeId × Value → H} {w : World} {spare : Nat → Bool} {held : Bool} {fuel : Nat} {cs : List Value} {x : DataW H × List MemPlace}
  (hf : DataW.trod enc Tryz.prog w 0 spare held fuel 23 cs = some x) : ∃ v l, cs = [v] ∧ IsH w v l := by
 rcases DataW.trod_slice Tryz.underlying23 hf with ⟨rfl, _⟩ | ⟨a, len, cap, elems, rest, n, _, rfl, _, hb, hl, hm, hlen, hel, _, _⟩
 ·exact ⟨_, [], rfl, none, 0, rfl, Nat.le_refl _, by unfold maxLen; omega, .inl rfl⟩
 ·by_cases h0 : len = 0
  ·subst h0
   exact ⟨_, [], rfl, _, _, rfl, hl, hm, .inl rfl⟩
  ·obtain ⟨b, off, spot⟩ := a
   have hs : spot = none := by
    have h1 := hel 0 (by omega)
    rw [cellsRow, List.getElem?_eq_getElem (by omega)] at h1
    obtain ⟨cs, hc, ht⟩ := Option.bind_eq_some_iff.1 h1
    obtain ⟨v, l, rfl, _⟩ := trod_ops ht
    have c0 := (World.cells?_some hc).2.2 0 (by omega)
    simpa [Addr.add] using World.cell?_spot c0
   subst hs
   have each : ∀ i, i < len → ∃ u l, (w.cell? ⟨b, off + i, none⟩ = some u ∧ IsO w u l) ∧ b < w.heap.size := by
    intro i hi
    have h1 := hel i hi
    rw [cellsRow, List.getElem?_eq_getElem (by omega), add_plain] at h1
    obtain ⟨cs, hc, ht⟩ := Option.bind_eq_some_iff.1 h1
    obtain ⟨v, l, rfl, hv⟩ := trod_ops ht
    have hblk : b < w.heap.size := World.cells?_block hc (by omega)
    obtain ⟨_, _, hcell⟩ := World.cells?_some hc
    have h2 := hcell 0 (by omega)
    simp only [add_plain] at h2
    exact ⟨v, l, ⟨by simpa using h2, hv⟩, hblk⟩
   obtain ⟨_, _, _, hblk⟩ := each 0 (by omega)
   obtain ⟨l, rfl, hi⟩ := hs_list (w := w) (b := b) (off := off) len (fun i hi => by
    obtain ⟨u, l, he, _⟩ := each i hi
    exact ⟨u, l, he⟩)
   exact ⟨_, l, rfl, _, _, rfl, hl, hm, .inr ⟨b, off, rfl, hblk, hi⟩⟩
set_option maxRecDepth 100000 in
theorem open_model {H : Type} {enc : TypeId × Value → H} {w : World} {b0 : Nat} {spare : Nat → Bool} {held : Bool} {r : Reach} {v : Value} {d : DataW H} {p : List MemPlace}
  (hv : Value.okWide Tryz.prog w r b0 26 v) (h : DataW.Trod enc Tryz.prog w 0 spare held 26 v d p) : ∃ m : Md, IsM w v m := by
 obtain ⟨cs, rfl, hsz⟩ := okWide_struct Tryz.underlying26 hv
 obtain ⟨fuel, hf⟩ := h
 obtain ⟨xs, n, _, _, hl, hlen, hf⟩ := DataW.trod_struct Tryz.underlying26 hf
 rw [cellsM] at hl
 obtain ⟨c0, c1, c2, c3, c4, c5, hcs⟩ := list6 hl
 have hx : xs.length = 6 := by simpa using hlen
 obtain ⟨y0, y1, y2, y3, y4, y5, rfl⟩ := list6 hx
 rw [hcs] at hf
 have h0 := hf 0 _ rfl
 have h1 := hf 1 _ rfl
 have h2 := hf 2 _ rfl
 have h3 := hf 3 _ rfl
 have h4 := hf 4 _ rfl
 have h5 := hf 5 _ rfl
 obtain ⟨a0, e0, _, _⟩ := DataW.trod_int Tryz.underlying3 h0
 obtain ⟨a1, e1, _, _⟩ := DataW.trod_int Tryz.underlying3 h1
 obtain ⟨v2, l2, e2, g2⟩ := trod_ints h2
 obtain ⟨v3, l3, e3, g3⟩ := trod_hs h3
 obtain ⟨v4, l4, e4, g4⟩ := trod_evs h4
 obtain ⟨a5, e5, _, _⟩ := DataW.trod_int Tryz.underlying3 h5
 simp [cells3, cellsInts, cellsRows, cellsEvs] at e0 e1 e2 e3 e4 e5
 subst e0 e1 e2 e3 e4 e5
 refine ⟨⟨a0, a1, l2, l3, l4, a5⟩, c2, c3, c4, ?_, g2, g3, g4⟩
 rw [show cs = #[.int .i64 a0, .int .i64 a1, c2, c3, c4, .int .i64 a5] from by
  apply Array.toList_inj.1
  simpa [Value.cells] using hcs]
end Go.Proofs.YthfhibnnkpbeiaaGreat

