/- WTo -/
import Derived.Test.YtnlhcdchmgfipaaGreatExactWorldOkG06
import Derived.Test.YtnlhcdchmgfipaaGreatExactWorldOkLKKt
/- A world: a copy of its own. -/
namespace Go.Proofs.YtnlhcdchmgfipaaGreat
open Go.RowKit
theorem infoKern : (Tryz.prog.info? 42).map (fun i => (i.zero, i.size, i.bytes)) = some (some (.agg #[.int .i64 0, .int .i64 0, .slice none 0 0, .slice none 0 0, .slice none 0 0, .int .i64 0, .slice none 0 0, .slice none 0 0, .slice none 0 0, .int .i64 0, .int .i64 0, .bool false, .slice none 0 0, .slice none 0 0]), 14, 240) := by kernel_rfl
theorem put14_is (w : World) (g m : Nat) (v0 v1 v2 v3 v4 v5 v6 v7 v8 v9 v10 v11 v12 v13 : Value) : ((((((((((((((w.setCell ⟨g, m, none⟩ (v0)).setCell ⟨g, m + 1, none⟩ (v1)).setCell ⟨g, m + 2, none⟩ (v2)).setCell ⟨g, m + 3, none⟩ (v3)).setCell ⟨g, m + 4, none⟩ (v4)).setCell ⟨g, m + 5, none⟩ (v5)).setCell ⟨g, m + 6, none⟩ (v6)).setCell ⟨g, m + 7, none⟩ (v7)).setCell ⟨g, m + 8, none⟩ (v8)).setCell ⟨g, m + 9, none⟩ (v9)).setCell ⟨g, m + 10, none⟩ (v10)).setCell ⟨g, m + 11, none⟩ (v11)).setCell ⟨g, m + 12, none⟩ (v12)).setCell ⟨g, m + 13, none⟩ (v13)) = w.setCells g m [v0, v1, v2, v3, v4, v5, v6, v7, v8, v9, v10, v11, v12, v13] := rfl
theorem setCells_turns (g : Nat) : ∀ (vs : List Value) (m : Nat) (w : World), Turns (fun k => k = g) w (w.setCells g m vs)
 | [], _, w => Turns.refl _ w
 | v :: vs, m, w => (put1_turns w g m v).trans (setCells_turns g vs (m + 1) (w.setCell ⟨g, m, none⟩ v))
theorem KernF.form {F : Nat → Prop} {w : World} {y : Value} {k : Kn} (h : KernF F w y k) : ∃ ai ci ah ch ae ce a6 c6 a7 c7 a8 c8 a12 c12 a13 c13, y = .agg #[.int .i64 k.m.n, .int .i64 k.m.s, .slice ai k.m.i.length ci, .slice ah k.m.h.length ch, .slice ae k.m.e.length ce, .int .i64 k.m.z, .slice a6 k.d.length c6, .slice a7 k.p.length c7, .slice a8 k.b.length c8, .int .i64 k.t, .int .i64 k.q, .bool k.f, .slice a12 k.s.length c12, .slice a13 k.x.length c13] := by
 obtain ⟨A0, A6, A7, A8, A12, A13, vi, vh, vs, u6, u7, u8, u12, u13, rfl, hm, h6, h7, h8, h12, h13, _⟩ := h
 obtain ⟨ai, ci, ah, ch, ae, ce, hE⟩ := MdF.form hm
 cases hE
 obtain ⟨a6, c6, rfl, _⟩ := OwnD.parts (c := 1) (n := k.d.length) h6
 obtain ⟨a7, c7, rfl, _⟩ := OwnD.parts (c := 7) (n := k.p.length) h7
 obtain ⟨a8, c8, rfl, _⟩ := OwnD.parts (c := 8) (n := k.b.length) h8
 obtain ⟨a12, c12, rfl, _⟩ := OwnD.parts (c := 7) (n := k.s.length) h12
 obtain ⟨a13, c13, rfl, _⟩ := OwnD.parts (c := 3) (n := k.x.length) h13
 exact ⟨ai, ci, ah, ch, ae, ce, a6, c6, a7, c7, a8, c8, a12, c12, a13, c13, rfl⟩
theorem KernF.mono {F F' : Nat → Prop} {w : World} {y : Value} {k : Kn} (h : KernF F w y k) (hF : ∀ j, F j → F' j) : KernF F' w y k := by
 obtain ⟨A0, A6, A7, A8, A12, A13, vi, vh, vs, u6, u7, u8, u12, u13, e, hm, h6, h7, h8, h12, h13, d0, d6, d7, d8, d12, d13⟩ := h
 exact ⟨A0, A6, A7, A8, A12, A13, vi, vh, vs, u6, u7, u8, u12, u13, e, hm, h6, h7, h8, h12, h13, fun j hj => ⟨hF j (d0 j hj).1, (d0 j hj).2⟩, fun j hj => ⟨hF j (d6 j hj).1, (d6 j hj).2⟩, fun j hj => ⟨hF j (d7 j hj).1, (d7 j hj).2⟩, fun j hj => ⟨hF j (d8 j hj).1, (d8 j hj).2⟩, fun j hj => ⟨hF j (d12 j hj).1, (d12 j hj).2⟩, fun j hj => hF j (d13 j hj)⟩
def KFill (w : World) (g n k : Nat) (l : List Kn) : Prop := (∀ j, j < n * 14 → ∃ u, w.cell? ⟨g, j, none⟩ = some u ∧ w.frozen? ⟨g, j, none⟩ = false) ∧ g < w.heap.size ∧ ∀ i, i < k → ∃ vs : List Value, vs.length = 14 ∧ (∀ r v, vs[r]? = some v → w.cell? ⟨g, i * 14 + r, none⟩ = some v) ∧ KernF (fun j => g < j ∧ j < w.heap.size) w (.agg vs.toArray) (knAt l i)
theorem KFill.turns {S : Nat → Prop} {w w' : World} {g n k : Nat} {l : List Kn} (h : KFill w g n k l) (ht : Turns S w w') (hS : ∀ j, S j → w.heap.size ≤ j) : KFill w' g n k l := by
 obtain ⟨h1, h2, h3⟩ := h
 have hg : ¬ S g := fun e => by have := hS g e; omega
 refine ⟨fun j hj => ?_, Nat.lt_of_lt_of_le h2 ht.size, fun i hi => ?_⟩
 ·rw [ht.cell h2 hg, ht.frozen h2 hg]
  exact h1 j hj
 ·obtain ⟨vs, e1, e2, e3⟩ := h3 i hi
  exact ⟨vs, e1, fun r v hv => (ht.cell h2 hg).trans (e2 r v hv), (e3.turns ht (fun j hj e => by have := hS j e; omega)).mono (fun j hj => ⟨hj.1, Nat.lt_of_lt_of_le hj.2 ht.size⟩)⟩
theorem KFill.low {S : Nat → Prop} {w w' : World} {g n k : Nat} {l : List Kn} (h : KFill w g n k l) (ht : Turns S w w') (hS : ∀ j, S j → j < g) : KFill w' g n k l := by
 obtain ⟨h1, h2, h3⟩ := h
 have hg : ¬ S g := fun e => by have := hS g e; omega
 refine ⟨fun j hj => ?_, Nat.lt_of_lt_of_le h2 ht.size, fun i hi => ?_⟩
 ·rw [ht.cell h2 hg, ht.frozen h2 hg]
  exact h1 j hj
 ·obtain ⟨vs, e1, e2, e3⟩ := h3 i hi
  exact ⟨vs, e1, fun r v hv => (ht.cell h2 hg).trans (e2 r v hv), (e3.turns ht (fun j hj e => by have := hS j e; omega)).mono (fun j hj => ⟨hj.1, Nat.lt_of_lt_of_le hj.2 ht.size⟩)⟩
theorem KFill.put {w : World} {g n k : Nat} {l : List Kn} {vs : List Value} (h : KFill w g n k l) (hk : k < n) (hl : vs.length = 14) (hF : KernF (fun j => g < j ∧ j < w.heap.size) w (.agg vs.toArray) (knAt l k)) : KFill (w.setCells g (k * 14) vs) g n (k + 1) l := by
 obtain ⟨h1, h2, h3⟩ := h
 have ht := setCells_turns g vs (k * 14) w
 have hin := World.cell?_setCells_in g vs (k * 14) w (fun i hi => by
  obtain ⟨u, hu, _⟩ := h1 (k * 14 + i) (by omega)
  rw [hu]; rfl)
 have hout : ∀ j, ¬ (k * 14 ≤ j ∧ j < k * 14 + 14) → (w.setCells g (k * 14) vs).cell? ⟨g, j, none⟩ = w.cell? ⟨g, j, none⟩ := fun j hj => World.cell?_setCells_out g vs (k * 14) w ⟨g, j, none⟩ (fun i hi => by simp; omega)
 have hfr : ∀ j, (w.setCells g (k * 14) vs).frozen? ⟨g, j, none⟩ = w.frozen? ⟨g, j, none⟩ := fun j => by rw [World.frozen?_setCells]
 refine ⟨fun j hj => ?_, Nat.lt_of_lt_of_le h2 ht.size, fun i hi => ?_⟩
 ·rw [hfr]
  obtain ⟨u, hu, hz⟩ := h1 j hj
  by_cases hjr : k * 14 ≤ j ∧ j < k * 14 + 14
  ·have h9 := hin (j - k * 14) (by omega)
   rw [show k * 14 + (j - k * 14) = j from by omega] at h9
   exact ⟨_, h9, hz⟩
  ·rw [hout j hjr]
   exact ⟨u, hu, hz⟩
 ·by_cases hik : i < k
  ·obtain ⟨us, e1, e2, e3⟩ := h3 i hik
   refine ⟨us, e1, fun r v hv => ?_, (e3.turns ht (fun j hj e => by omega)).mono (fun j hj => ⟨hj.1, Nat.lt_of_lt_of_le hj.2 ht.size⟩)⟩
   have hr : r < us.length := (List.getElem?_eq_some_iff.1 hv).1
   rw [hout (i * 14 + r) (by omega)]
   exact e2 r v hv
  ·obtain rfl : i = k := by omega
   refine ⟨vs, hl, fun r v hv => ?_, (hF.turns ht (fun j hj e => by omega)).mono (fun j hj => ⟨hj.1, Nat.lt_of_lt_of_le hj.2 ht.size⟩)⟩
   obtain ⟨hr, hv'⟩ := List.getElem?_eq_some_iff.1 hv
   rw [hin r hr, hv']
theorem KFill.all {w : World} {g n cap : Nat} {l : List Kn} (h : KFill w g n n l) (hn : n = l.length) (hc1 : n ≤ cap) (hc2 : cap ≤ maxLen) : IsKs w (.slice (some ⟨g, 0, none⟩) n cap) l := by
 obtain ⟨_, h2, h3⟩ := h
 subst hn
 refine ⟨_, cap, rfl, hc1, hc2, .inr ⟨g, 0, rfl, h2, fun i hi => ?_⟩⟩
 obtain ⟨ws, e1, e2, e3⟩ := h3 i hi
 have hk := e3.is
 obtain ⟨vi, vh, vs, u6, u7, u8, u12, u13, hE, hm⟩ := id hk
 have hv : ws = [.int .i64 (knAt l i).m.n, .int .i64 (knAt l i).m.s, vi, vh, vs, .int .i64 (knAt l i).m.z, u6, u7, u8, .int .i64 (knAt l i).t, .int .i64 (knAt l i).q, .bool (knAt l i).f, u12, u13] := by
  have h9 := congrArg Array.toList (Value.agg.inj hE)
  simpa using h9
 subst hv
 rw [Nat.zero_add]
 exact ⟨vi, vh, vs, u6, u7, u8, u12, u13, ⟨e2 0 _ rfl, e2 1 _ rfl, e2 2 _ rfl, e2 3 _ rfl, e2 4 _ rfl, e2 5 _ rfl, e2 6 _ rfl, e2 7 _ rfl, e2 8 _ rfl, e2 9 _ rfl, e2 10 _ rfl, e2 11 _ rfl, e2 12 _ rfl, e2 13 _ rfl⟩, hk⟩
theorem made_fill {w1 : World} {g n : Nat} {l : List Kn} {B : Nat} {xs : List Value} (h : w1.ownsRow B 42 14 (.slice (some ⟨g, 0, none⟩) n n) n xs) : KFill w1 g n 0 l := by
 obtain ⟨_, ⟨e, _⟩ | ⟨g', cap, cur, e, _, hc, h1, h2, h3, h4⟩⟩ := h
 ·cases e
 ·cases e
  have hlt : g < w1.heap.size := (Array.getElem?_eq_some_iff.1 hc).1
  refine ⟨fun j hj => ?_, hlt, fun i hi => by omega⟩
  have hjc : j < cur.size := by rw [h3]; exact hj
  refine ⟨cur[j], ?_, by simp [World.frozen?, hc]⟩
  simp [World.cell?, hc, hjc]
set_option maxRecDepth 100000 in
set_option maxHeartbeats 8000000 in
theorem to_kernels (x : Value) (l : List Kn) (w : World) (hl : SmallKs l) (h : IsKs w x l) :
  Calls Tryz.prog 85 #[x] w fun e w' => ∃ y, e = .returned y ∧ Below w.heap.size w w' ∧ (∀ {S : Nat → Prop} (X : World), Turns S w' X → (∀ j, S j → j < w.heap.size) → IsKs X y l) ∧ ∃ a cap, y = .slice a l.length cap := by
 obtain ⟨a, cap, rfl, h1, h2, h⟩ := h
 have HS : Hid (SmallKs l) := hl
 have hl2 : l.length ≤ 1048576 := hl.1
 have hp : (0 : Int) ≤ (l.length : Int) := by omega
 clear hl
 obtain ⟨i0, hi, hz0, hz1, hz2⟩ := info_parts infoKern
 go_enter Tryz.func85, Tryz.ntmps85
 go_wp2_with (at_make; refine wpList_make_full _ rfl _ _ 58 rfl w.heap.size 42 i0 _ 14 Tryz.underlying58 hi hz0 hz1 .i64 .i64 l.length l.length l.length rfl rfl rfl rfl (by rw [hz2]; omega) (by unfold maxLen; omega) (Nat.le_refl _) ?_; intro w1 hown hgrow)
 have hB1 : Hid (Below w.heap.size w w1) := (Below.refl _ _).grown hgrow (Nat.le_refl _) (fun k e => by cases e)
 have hR1 : Hid (KFill w1 w.heap.size l.length 0 l) := made_fill hown
 clear hown hgrow hi hz0 hz1 hz2
 go_loopw [4] (fun i wr => ∃ k : Nat, k ≤ l.length ∧ i = .int .i64 k ∧ Below w.heap.size w wr ∧ KFill wr w.heap.size l.length k l) (fun i _ => l.length - (intOf i).toNat)
 case atStart => exact ⟨0, Nat.zero_le _, rfl, hB1.out, hR1.out⟩
 case round =>
  obtain ⟨k, hk, rfl, hB, hR⟩ := hrel
  have HB : Hid (Below w.heap.size w wr) := hB
  have HR : Hid (KFill wr w.heap.size l.length k l) := hR
  clear hR
  by_cases hlt : k < l.length
  ·obtain ⟨b, off, rfl, hb, hc⟩ := h.resolve_left (by omega)
   obtain ⟨vi, vh, vs, u6, u7, u8, u12, u13, ⟨f0, f1, f2, f3, f4, f5, f6, f7, f8, f9, f10, f11, f12, f13⟩, hD⟩ := (hc k hlt).under hb hB
   have HD : Hid (IsKern wr (.agg #[.int .i64 (knAt l k).m.n, .int .i64 (knAt l k).m.s, vi, vh, vs, .int .i64 (knAt l k).m.z, u6, u7, u8, .int .i64 (knAt l k).t, .int .i64 (knAt l k).q, .bool (knAt l k).f, u12, u13]) (knAt l k)) := hD
   have hg : w.heap.size < wr.heap.size := HR.out.2.1
   clear hB hB1 hR1 h hc hD
   go_wp2_with fail
   clear f0 f1 f2 f3 f4 f5 f6 f7 f8 f9 f10 f11 f12 f13
   refine (toKernel_any _ (knAt l k) _ (HS.out.2 k hlt) HD.out).mono ?_
   rintro e w2 ⟨y, rfl, hb2, hF⟩
   obtain ⟨ai, ci, ah, ch, ae, ce, a6, c6, a7, c7, a8, c8, a12, c12, a13, c13, rfl⟩ := hF.form
   have HB2 : Hid (Below wr.heap.size wr w2) := hb2
   have HF : Hid (KernF (fun j => wr.heap.size ≤ j ∧ j < w2.heap.size) w2 (.agg #[.int .i64 (knAt l k).m.n, .int .i64 (knAt l k).m.s, .slice ai (knAt l k).m.i.length ci, .slice ah (knAt l k).m.h.length ch, .slice ae (knAt l k).m.e.length ce, .int .i64 (knAt l k).m.z, .slice a6 (knAt l k).d.length c6, .slice a7 (knAt l k).p.length c7, .slice a8 (knAt l k).b.length c8, .int .i64 (knAt l k).t, .int .i64 (knAt l k).q, .bool (knAt l k).f, .slice a12 (knAt l k).s.length c12, .slice a13 (knAt l k).x.length c13]) (knAt l k)) := hF
   have HR2 : Hid (KFill w2 w.heap.size l.length k l) := HR.out.turns (S := fun _ => False) (Turns.of_below hb2) (fun _ e => e.elim)
   obtain ⟨x0, g0, z0⟩ := HR2.out.1 (k * 14) (by omega)
   obtain ⟨x1, g1, z1⟩ := HR2.out.1 (k * 14 + 1) (by omega)
   obtain ⟨x2, g2, z2⟩ := HR2.out.1 (k * 14 + 2) (by omega)
   obtain ⟨x3, g3, z3⟩ := HR2.out.1 (k * 14 + 3) (by omega)
   obtain ⟨x4, g4, z4⟩ := HR2.out.1 (k * 14 + 4) (by omega)
   obtain ⟨x5, g5, z5⟩ := HR2.out.1 (k * 14 + 5) (by omega)
   obtain ⟨x6, g6, z6⟩ := HR2.out.1 (k * 14 + 6) (by omega)
   obtain ⟨x7, g7, z7⟩ := HR2.out.1 (k * 14 + 7) (by omega)
   obtain ⟨x8, g8, z8⟩ := HR2.out.1 (k * 14 + 8) (by omega)
   obtain ⟨x9, g9, z9⟩ := HR2.out.1 (k * 14 + 9) (by omega)
   obtain ⟨x10, g10, z10⟩ := HR2.out.1 (k * 14 + 10) (by omega)
   obtain ⟨x11, g11, z11⟩ := HR2.out.1 (k * 14 + 11) (by omega)
   obtain ⟨x12, g12, z12⟩ := HR2.out.1 (k * 14 + 12) (by omega)
   obtain ⟨x13, g13, z13⟩ := HR2.out.1 (k * 14 + 13) (by omega)
   clear hb2 hF
   go_wp2
   go_roundw
   case rel =>
    rw [put14_is]
    have hsz := HB2.out.size
    have hT := setCells_turns w.heap.size [.int .i64 (knAt l k).m.n, .int .i64 (knAt l k).m.s, .slice ai (knAt l k).m.i.length ci, .slice ah (knAt l k).m.h.length ch, .slice ae (knAt l k).m.e.length ce, .int .i64 (knAt l k).m.z, .slice a6 (knAt l k).d.length c6, .slice a7 (knAt l k).p.length c7, .slice a8 (knAt l k).b.length c8, .int .i64 (knAt l k).t, .int .i64 (knAt l k).q, .bool (knAt l k).f, .slice a12 (knAt l k).s.length c12, .slice a13 (knAt l k).x.length c13] (k * 14) w2
    refine ⟨k + 1, by omega, by go_num, (HB.out.trans (HB2.out.mono (by omega))).trans (hT.to_below (fun b e => by omega) (by omega)), HR2.out.put hlt rfl (HF.out.mono (fun j hj => ⟨by omega, hj.2⟩))⟩
   case measure => simp [intOf]; omega
  ·clear hB hB1 hR1 h
   go_wp2
   go_ret
   obtain rfl : k = l.length := by omega
   exact ⟨_, rfl, HB.out, fun X hX hS => KFill.all (HR.out.low hX hS) rfl (Nat.le_refl _) (by unfold maxLen; omega), _, _, rfl⟩
theorem infoInts : (Tryz.prog.info? 22).map (fun i => (i.zero, i.size, i.bytes)) = some (some (.slice none 0 0), 1, 24) := by kernel_rfl
set_option maxHeartbeats 8000000 in
theorem to_vecs (x : Value) (l : List (List Int)) (w : World) (hl : (vecsD l).wt ≤ 1048576) (h : IsD w x (vecsD l)) :
  Calls Tryz.prog 86 #[x] w fun e w' => ∃ y, e = .returned y ∧ Below w.heap.size w w' ∧ OwnD w' (fun k => w.heap.size ≤ k ∧ k < w'.heap.size) y (vecsD l) := by
 obtain ⟨a, cap, rfl, h1, h2, h⟩ := IsD.parts (c := 1) (n := l.length) h
 have HS : Hid ((vecsD l).wt ≤ 1048576) := hl
 have hl2 : l.length ≤ 1048576 := by rw [vecs_wt] at hl; omega
 have hp : (0 : Int) ≤ (l.length : Int) := by omega
 clear hl
 obtain ⟨i0, hi, hz0, hz1, hz2⟩ := info_parts infoInts
 go_enter Tryz.func86, Tryz.ntmps86
 go_wp2_with (at_make; refine wpList_make_full _ rfl _ _ 53 rfl w.heap.size 22 i0 _ 1 Tryz.underlying53 hi hz0 hz1 .i64 .i64 l.length l.length l.length rfl rfl rfl rfl (by rw [hz2]; omega) (by unfold maxLen; omega) (Nat.le_refl _) ?_; intro w1 hown hgrow)
 have hB1 : Hid (Below w.heap.size w w1) := (Below.refl _ _).grown hgrow (Nat.le_refl _) (fun k e => by cases e)
 obtain ⟨zs, hR0⟩ := OwnD.made0 (vecsD_f l) hown
 have hR1 : Hid (OwnD w1 (fun k => w.heap.size ≤ k ∧ k < w1.heap.size) (sl w.heap.size l.length) (.row 1 l.length (toC (vecsD_f l) zs 0))) := hR0
 clear hown hgrow hi hz0 hz1 hz2 hR0
 go_loopw [4] (fun i wr => ∃ k : Nat, k ≤ l.length ∧ i = .int .i64 k ∧ Below w.heap.size w wr ∧ OwnD wr (fun k => w.heap.size ≤ k ∧ k < wr.heap.size) (sl w.heap.size l.length) (.row 1 l.length (toC (vecsD_f l) zs k))) (fun i _ => l.length - (intOf i).toNat)
 case atStart => exact ⟨0, Nat.zero_le _, rfl, hB1.out, hR1.out⟩
 case round =>
  obtain ⟨k, hk, rfl, hB, hR⟩ := hrel
  have HB : Hid (Below w.heap.size w wr) := hB
  have HR : Hid (OwnD wr (fun k => w.heap.size ≤ k ∧ k < wr.heap.size) (sl w.heap.size l.length) (.row 1 l.length (toC (vecsD_f l) zs k))) := hR
  clear hR
  by_cases hlt : k < l.length
  ·obtain ⟨b, off, rfl, hb, hc⟩ := h.resolve_left (by omega)
   obtain ⟨u, hu, hd⟩ := hc k (by omega)
   have f0 := (hB.cell (p := ⟨b, off + k, none⟩) hb).trans hu
   have HD : Hid (IsD wr u (intsD (vAt l k))) := hd.under hB
   have hg : w.heap.size < wr.heap.size := (HR.out.lt (by omega)).1
   clear hB hB1 hR1 h hc hd hu
   go_wp2_with fail
   clear f0
   refine (to_ints _ (vAt l k) _ (Nat.le_trans (vec_le hlt) HS.out) HD.out).mono ?_
   rintro e w2 ⟨y, rfl, hb2, o1⟩
   have HB2 : Hid (Below wr.heap.size wr w2) := hb2
   have HR2 : Hid (OwnD w2 (fun k => w.heap.size ≤ k ∧ k < wr.heap.size) (sl w.heap.size l.length) (.row 1 l.length (toC (vecsD_f l) zs k))) := HR.out.under hb2
   obtain ⟨a1, c1, rfl, _⟩ := OwnD.parts (c := 1) (n := (vAt l k).length) o1
   have O1 : Hid (OwnD w2 (fun k => wr.heap.size ≤ k ∧ k < w2.heap.size) (.slice a1 (vAt l k).length c1) (intsD (vAt l k))) := o1
   obtain ⟨x0, _, g0, z0, _⟩ := HR2.out.step (j := k) (by omega)
   clear hb2 o1
   go_wp2
   go_roundw
   case rel =>
    have q := OwnD.fillN (G := fun _ k => wr.heap.size ≤ k ∧ k < w2.heap.size) (U := fun _ => .slice a1 (vAt l k).length c1) HR2.out ⟨Nat.le_refl _, hg⟩ 1 (by omega) (fun i hi => by
     obtain rfl : i = 0 := by omega
     exact O1.out) (fun i _ b hb hb' => by omega) (fun i j _ _ hij b hb hb' => by omega)
    have hT := put1_turns w2 w.heap.size k (.slice a1 (vAt l k).length c1)
    have hsz := hT.size
    have hs2 := HB2.out.size
    refine ⟨k + 1, by omega, by go_num, (HB.out.trans (HB2.out.mono (by omega))).trans (hT.to_below (fun b e => by omega) (by omega)), ?_⟩
    refine OwnD.mono q (fun b hb => ?_)
    rcases hb with hb | ⟨i, _, hb⟩
    ·exact ⟨hb.1, Nat.lt_of_lt_of_le hb.2 (Nat.le_trans hs2 hsz)⟩
    ·exact ⟨by omega, Nat.lt_of_lt_of_le hb.2 hsz⟩
   case measure => simp [intOf]; omega
  ·clear hB hB1 hR1 h
   go_wp2
   go_ret
   obtain rfl : k = l.length := by omega
   exact ⟨_, rfl, HB.out, HR.out.toAll (by omega)⟩
set_option maxRecDepth 100000 in
set_option maxHeartbeats 8000000 in
theorem toWorld_any (x : Value) (v : Wd) (w : World) (hs : SmallWd v) (h : IsW w x v) :
  Calls Tryz.prog 27 #[x] w fun e w' => ∃ y, e = .returned y ∧ Below w.heap.size w w' ∧ IsW w' y v := by
 obtain ⟨vi, vh, vs, uk, uc, rfl, hm, hk, hc⟩ := h
 have HS : Hid (SmallWd v) := hs
 have HM : Hid (IsM w (.agg #[.int .i64 v.m.n, .int .i64 v.m.s, vi, vh, vs, .int .i64 v.m.z]) v.m) := hm
 have HK : Hid (IsKs w uk v.k) := hk
 have HC : Hid (IsD w uc (vecsD v.c)) := hc
 clear hs hm hk hc
 obtain ⟨V0, hV0⟩ : ∃ V0, ((w.alloc (.cells #[.int .i64 v.m.n, .int .i64 v.m.s, vi, vh, vs, .int .i64 v.m.z, uk, uc] 55)).alloc (.cells #[.int .i64 0, .int .i64 0, .slice none 0 0, .slice none 0 0, .slice none 0 0, .int .i64 0, .slice none 0 0, .slice none 0 0] 60)).alloc (.cells #[.int .i64 0, .int .i64 0, .slice none 0 0, .slice none 0 0, .slice none 0 0, .int .i64 0, .slice none 0 0, .slice none 0 0] 60) = V0 := ⟨_, rfl⟩
 have HX0 : Hid (Below w.heap.size w V0) := by rw [← hV0]; exact (((Below.refl _ w).alloc (Nat.le_refl _) _).alloc (by simp) _).alloc (by simp; omega) _
 have hs0 : w.heap.size + 3 ≤ V0.heap.size := by rw [← hV0]; simp
 have HP0 : Hid (Bk V0 w.heap.size 55 #[.int .i64 v.m.n, .int .i64 v.m.s, vi, vh, vs, .int .i64 v.m.z, uk, uc]) := by rw [← hV0]; exact ((Bk.new w _ _).alloc _).alloc _
 have HR0 : Hid (Bk V0 (w.heap.size + 1) 60 #[.int .i64 0, .int .i64 0, .slice none 0 0, .slice none 0 0, .slice none 0 0, .int .i64 0, .slice none 0 0, .slice none 0 0]) := by rw [← hV0]; exact (Bk.newAt (by simp) _ _).alloc _
 have HQ0 : Hid (Bk V0 (w.heap.size + 1 + 1) 60 #[.int .i64 0, .int .i64 0, .slice none 0 0, .slice none 0 0, .slice none 0 0, .int .i64 0, .slice none 0 0, .slice none 0 0]) := by rw [← hV0]; exact Bk.newAt (by simp) _ _
 have HW0 : Hid (((w.alloc (.cells #[.int .i64 v.m.n, .int .i64 v.m.s, vi, vh, vs, .int .i64 v.m.z, uk, uc] 55)).alloc (.cells #[.int .i64 0, .int .i64 0, .slice none 0 0, .slice none 0 0, .slice none 0 0, .int .i64 0, .slice none 0 0, .slice none 0 0] 60)).alloc (.cells #[.int .i64 0, .int .i64 0, .slice none 0 0, .slice none 0 0, .slice none 0 0, .int .i64 0, .slice none 0 0, .slice none 0 0] 60) = V0) := hV0
 clear hV0
 go_enter Tryz.func27, Tryz.ntmps27
 have p0 := HP0.out.cell (i := 0) rfl
 have p1 := HP0.out.cell (i := 1) rfl
 have p2 := HP0.out.cell (i := 2) rfl
 have p3 := HP0.out.cell (i := 3) rfl
 have p4 := HP0.out.cell (i := 4) rfl
 have p5 := HP0.out.cell (i := 5) rfl
 go_wp2_with fail
 rw [HW0.out]
 clear p0 p1 p2 p3 p4 p5
 refine (toModel_any _ v.m _ HS.out.1 (HM.out.below HX0.out)).mono ?_
 rintro e w1 ⟨y0, rfl, hb, ho⟩
 obtain ⟨ai, ci, ah, ch, ae, ce, rfl⟩ := MdF.form ho
 have hz0 : V0.heap.size ≤ w1.heap.size := hb.size
 have HXb0 : Hid (Below w.heap.size w w1) := HX0.out.trans (hb.mono (by omega))
 have HPb0 : Hid (Bk w1 w.heap.size 55 #[.int .i64 v.m.n, .int .i64 v.m.s, vi, vh, vs, .int .i64 v.m.z, uk, uc]) := HP0.out.below hb
 have HRb0 : Hid (Bk w1 (w.heap.size + 1) 60 #[.int .i64 0, .int .i64 0, .slice none 0 0, .slice none 0 0, .slice none 0 0, .int .i64 0, .slice none 0 0, .slice none 0 0]) := HR0.out.below hb
 have HQb0 : Hid (Bk w1 (w.heap.size + 1 + 1) 60 #[.int .i64 0, .int .i64 0, .slice none 0 0, .slice none 0 0, .slice none 0 0, .int .i64 0, .slice none 0 0, .slice none 0 0]) := HQ0.out.below hb
 have HM1 : Hid (∀ X, Turns (fun j => j = w.heap.size + 1 ∨ j = w.heap.size + 1 + 1) w1 X → IsM X (.agg #[.int .i64 v.m.n, .int .i64 v.m.s, .slice ai v.m.i.length ci, .slice ah v.m.h.length ch, .slice ae v.m.e.length ce, .int .i64 v.m.z]) v.m) := fun X hX => (ho.turns hX (fun j hj e => by omega)).isM
 clear hb ho
 have qq0 := HQb0.out.cell (i := 0) rfl
 have qq1 := HQb0.out.cell (i := 1) rfl
 have qq2 := HQb0.out.cell (i := 2) rfl
 have qq3 := HQb0.out.cell (i := 3) rfl
 have qq4 := HQb0.out.cell (i := 4) rfl
 have qq5 := HQb0.out.cell (i := 5) rfl
 have qf0 := HQb0.out.free
 obtain ⟨V1, hV1⟩ : ∃ V1, ((((((w1.setCell ⟨(w.heap.size + 1 + 1), 0, none⟩ (.int .i64 v.m.n)).setCell ⟨(w.heap.size + 1 + 1), 1, none⟩ (.int .i64 v.m.s)).setCell ⟨(w.heap.size + 1 + 1), 2, none⟩ (.slice ai v.m.i.length ci)).setCell ⟨(w.heap.size + 1 + 1), 3, none⟩ (.slice ah v.m.h.length ch)).setCell ⟨(w.heap.size + 1 + 1), 4, none⟩ (.slice ae v.m.e.length ce)).setCell ⟨(w.heap.size + 1 + 1), 5, none⟩ (.int .i64 v.m.z)) = V1 := ⟨_, rfl⟩
 have HY0 := HQb0.out
 obtain ⟨Y1, hY1⟩ : ∃ Y1, w1.setCell ⟨(w.heap.size + 1 + 1), 0, none⟩ (.int .i64 v.m.n) = Y1 := ⟨_, rfl⟩
 have HY1 : Bk Y1 (w.heap.size + 1 + 1) 60 #[.int .i64 v.m.n, .int .i64 0, .slice none 0 0, .slice none 0 0, .slice none 0 0, .int .i64 0, .slice none 0 0, .slice none 0 0] := hY1 ▸ HY0.put 0 _
 clear HY0
 obtain ⟨Y2, hY2⟩ : ∃ Y2, Y1.setCell ⟨(w.heap.size + 1 + 1), 1, none⟩ (.int .i64 v.m.s) = Y2 := ⟨_, rfl⟩
 have HY2 : Bk Y2 (w.heap.size + 1 + 1) 60 #[.int .i64 v.m.n, .int .i64 v.m.s, .slice none 0 0, .slice none 0 0, .slice none 0 0, .int .i64 0, .slice none 0 0, .slice none 0 0] := hY2 ▸ HY1.put 1 _
 clear HY1
 obtain ⟨Y3, hY3⟩ : ∃ Y3, Y2.setCell ⟨(w.heap.size + 1 + 1), 2, none⟩ (.slice ai v.m.i.length ci) = Y3 := ⟨_, rfl⟩
 have HY3 : Bk Y3 (w.heap.size + 1 + 1) 60 #[.int .i64 v.m.n, .int .i64 v.m.s, .slice ai v.m.i.length ci, .slice none 0 0, .slice none 0 0, .int .i64 0, .slice none 0 0, .slice none 0 0] := hY3 ▸ HY2.put 2 _
 clear HY2
 obtain ⟨Y4, hY4⟩ : ∃ Y4, Y3.setCell ⟨(w.heap.size + 1 + 1), 3, none⟩ (.slice ah v.m.h.length ch) = Y4 := ⟨_, rfl⟩
 have HY4 : Bk Y4 (w.heap.size + 1 + 1) 60 #[.int .i64 v.m.n, .int .i64 v.m.s, .slice ai v.m.i.length ci, .slice ah v.m.h.length ch, .slice none 0 0, .int .i64 0, .slice none 0 0, .slice none 0 0] := hY4 ▸ HY3.put 3 _
 clear HY3
 obtain ⟨Y5, hY5⟩ : ∃ Y5, Y4.setCell ⟨(w.heap.size + 1 + 1), 4, none⟩ (.slice ae v.m.e.length ce) = Y5 := ⟨_, rfl⟩
 have HY5 : Bk Y5 (w.heap.size + 1 + 1) 60 #[.int .i64 v.m.n, .int .i64 v.m.s, .slice ai v.m.i.length ci, .slice ah v.m.h.length ch, .slice ae v.m.e.length ce, .int .i64 0, .slice none 0 0, .slice none 0 0] := hY5 ▸ HY4.put 4 _
 clear HY4
 obtain ⟨Y6, hY6⟩ : ∃ Y6, Y5.setCell ⟨(w.heap.size + 1 + 1), 5, none⟩ (.int .i64 v.m.z) = Y6 := ⟨_, rfl⟩
 have HY6 : Bk Y6 (w.heap.size + 1 + 1) 60 #[.int .i64 v.m.n, .int .i64 v.m.s, .slice ai v.m.i.length ci, .slice ah v.m.h.length ch, .slice ae v.m.e.length ce, .int .i64 v.m.z, .slice none 0 0, .slice none 0 0] := hY6 ▸ HY5.put 5 _
 clear HY5
 have hYV : Y6 = V1 := by rw [← hV1, hY1, hY2, hY3, hY4, hY5, hY6]
 have HQ1 : Hid (Bk V1 (w.heap.size + 1 + 1) 60 #[.int .i64 v.m.n, .int .i64 v.m.s, .slice ai v.m.i.length ci, .slice ah v.m.h.length ch, .slice ae v.m.e.length ce, .int .i64 v.m.z, .slice none 0 0, .slice none 0 0]) := hYV ▸ HY6
 clear HY6 hYV hY6 hY5 hY4 hY3 hY2 hY1
 have HP1 : Hid (Bk V1 w.heap.size 55 #[.int .i64 v.m.n, .int .i64 v.m.s, vi, vh, vs, .int .i64 v.m.z, uk, uc]) := by rw [← hV1]; exact ((((((HPb0.out.other 0 _ (by omega)).other 1 _ (by omega)).other 2 _ (by omega)).other 3 _ (by omega)).other 4 _ (by omega)).other 5 _ (by omega))
 have HR1 : Hid (Bk V1 (w.heap.size + 1) 60 #[.int .i64 0, .int .i64 0, .slice none 0 0, .slice none 0 0, .slice none 0 0, .int .i64 0, .slice none 0 0, .slice none 0 0]) := by rw [← hV1]; exact ((((((HRb0.out.other 0 _ (by omega)).other 1 _ (by omega)).other 2 _ (by omega)).other 3 _ (by omega)).other 4 _ (by omega)).other 5 _ (by omega))
 have HT1 : Hid (Turns (fun j => j = (w.heap.size + 1 + 1)) w1 V1) := by rw [← hV1]; exact (((((put1_turns _ _ 0 _).trans (put1_turns _ _ 1 _)).trans (put1_turns _ _ 2 _)).trans (put1_turns _ _ 3 _)).trans (put1_turns _ _ 4 _)).trans (put1_turns _ _ 5 _)
 have hy1 : w1.heap.size ≤ V1.heap.size := HT1.out.size
 have HX1 : Hid (Below w.heap.size w V1) := HXb0.out.trans (HT1.out.to_below (fun j e => by omega) (by omega))
 have HM1b : Hid (∀ X, Turns (fun j => j = w.heap.size + 1 ∨ j = w.heap.size + 1 + 1) V1 X → IsM X (.agg #[.int .i64 v.m.n, .int .i64 v.m.s, .slice ai v.m.i.length ci, .slice ah v.m.h.length ch, .slice ae v.m.e.length ce, .int .i64 v.m.z]) v.m) := fun X hX => HM1.out X ((HT1.out.mono (fun j e => .inr e)).trans hX)
 clear HM1
 have HM1 := HM1b
 clear HM1b
 clear HP0 HR0 HQ0 HX0 HPb0 HRb0 HQb0 HXb0
 have p6 := HP1.out.cell (i := 6) rfl
 go_wp2_with fail
 clear qq0 qq1 qq2 qq3 qq4 qq5 qf0 hV1 p6
 refine (to_kernels _ v.k _ HS.out.2.1 (HK.out.under HX1.out)).mono ?_
 rintro e w2 ⟨y1, rfl, hb, ho, ak, ck, rfl⟩
 have hz1 : V1.heap.size ≤ w2.heap.size := hb.size
 have HXb1 : Hid (Below w.heap.size w w2) := HX1.out.trans (hb.mono (by omega))
 have HPb1 : Hid (Bk w2 w.heap.size 55 #[.int .i64 v.m.n, .int .i64 v.m.s, vi, vh, vs, .int .i64 v.m.z, uk, uc]) := HP1.out.below hb
 have HRb1 : Hid (Bk w2 (w.heap.size + 1) 60 #[.int .i64 0, .int .i64 0, .slice none 0 0, .slice none 0 0, .slice none 0 0, .int .i64 0, .slice none 0 0, .slice none 0 0]) := HR1.out.below hb
 have HQb1 : Hid (Bk w2 (w.heap.size + 1 + 1) 60 #[.int .i64 v.m.n, .int .i64 v.m.s, .slice ai v.m.i.length ci, .slice ah v.m.h.length ch, .slice ae v.m.e.length ce, .int .i64 v.m.z, .slice none 0 0, .slice none 0 0]) := HQ1.out.below hb
 have HM1b : Hid (∀ X, Turns (fun j => j = w.heap.size + 1 ∨ j = w.heap.size + 1 + 1) w2 X → IsM X (.agg #[.int .i64 v.m.n, .int .i64 v.m.s, .slice ai v.m.i.length ci, .slice ah v.m.h.length ch, .slice ae v.m.e.length ce, .int .i64 v.m.z]) v.m) := fun X hX => HM1.out X ((Turns.of_below hb).trans hX)
 clear HM1
 have HM1 := HM1b
 clear HM1b
 have HK1 : Hid (∀ X, Turns (fun j => j = w.heap.size + 1 ∨ j = w.heap.size + 1 + 1) w2 X → IsKs X (.slice ak v.k.length ck) v.k) := fun X hX => ho X hX (fun j hj => by omega)
 clear hb ho
 have qq6 := HQb1.out.cell (i := 6) rfl
 have qf1 := HQb1.out.free
 obtain ⟨V2, hV2⟩ : ∃ V2, (w2.setCell ⟨(w.heap.size + 1 + 1), 6, none⟩ (.slice ak v.k.length ck)) = V2 := ⟨_, rfl⟩
 have HY6 := HQb1.out
 obtain ⟨Y7, hY7⟩ : ∃ Y7, w2.setCell ⟨(w.heap.size + 1 + 1), 6, none⟩ (.slice ak v.k.length ck) = Y7 := ⟨_, rfl⟩
 have HY7 : Bk Y7 (w.heap.size + 1 + 1) 60 #[.int .i64 v.m.n, .int .i64 v.m.s, .slice ai v.m.i.length ci, .slice ah v.m.h.length ch, .slice ae v.m.e.length ce, .int .i64 v.m.z, .slice ak v.k.length ck, .slice none 0 0] := hY7 ▸ HY6.put 6 _
 clear HY6
 have hYV : Y7 = V2 := by rw [← hV2, hY7]
 have HQ2 : Hid (Bk V2 (w.heap.size + 1 + 1) 60 #[.int .i64 v.m.n, .int .i64 v.m.s, .slice ai v.m.i.length ci, .slice ah v.m.h.length ch, .slice ae v.m.e.length ce, .int .i64 v.m.z, .slice ak v.k.length ck, .slice none 0 0]) := hYV ▸ HY7
 clear HY7 hYV hY7
 have HP2 : Hid (Bk V2 w.heap.size 55 #[.int .i64 v.m.n, .int .i64 v.m.s, vi, vh, vs, .int .i64 v.m.z, uk, uc]) := by rw [← hV2]; exact (HPb1.out.other 6 _ (by omega))
 have HR2 : Hid (Bk V2 (w.heap.size + 1) 60 #[.int .i64 0, .int .i64 0, .slice none 0 0, .slice none 0 0, .slice none 0 0, .int .i64 0, .slice none 0 0, .slice none 0 0]) := by rw [← hV2]; exact (HRb1.out.other 6 _ (by omega))
 have HT2 : Hid (Turns (fun j => j = (w.heap.size + 1 + 1)) w2 V2) := by rw [← hV2]; exact put1_turns _ _ 6 _
 have hy2 : w2.heap.size ≤ V2.heap.size := HT2.out.size
 have HX2 : Hid (Below w.heap.size w V2) := HXb1.out.trans (HT2.out.to_below (fun j e => by omega) (by omega))
 have HM1b : Hid (∀ X, Turns (fun j => j = w.heap.size + 1 ∨ j = w.heap.size + 1 + 1) V2 X → IsM X (.agg #[.int .i64 v.m.n, .int .i64 v.m.s, .slice ai v.m.i.length ci, .slice ah v.m.h.length ch, .slice ae v.m.e.length ce, .int .i64 v.m.z]) v.m) := fun X hX => HM1.out X ((HT2.out.mono (fun j e => .inr e)).trans hX)
 clear HM1
 have HM1 := HM1b
 clear HM1b
 have HK1b : Hid (∀ X, Turns (fun j => j = w.heap.size + 1 ∨ j = w.heap.size + 1 + 1) V2 X → IsKs X (.slice ak v.k.length ck) v.k) := fun X hX => HK1.out X ((HT2.out.mono (fun j e => .inr e)).trans hX)
 clear HK1
 have HK1 := HK1b
 clear HK1b
 clear HP1 HR1 HQ1 HX1 HPb1 HRb1 HQb1 HXb1
 have p7 := HP2.out.cell (i := 7) rfl
 go_wp2_with fail
 clear qq6 qf1 hV2 p7
 refine (to_vecs _ v.c _ HS.out.2.2 (HC.out.under HX2.out)).mono ?_
 rintro e w3 ⟨y2, rfl, hb, ho⟩
 obtain ⟨ac, cc, rfl, _⟩ := OwnD.parts (c := 1) (n := v.c.length) ho
 have hz2 : V2.heap.size ≤ w3.heap.size := hb.size
 have HXb2 : Hid (Below w.heap.size w w3) := HX2.out.trans (hb.mono (by omega))
 have HPb2 : Hid (Bk w3 w.heap.size 55 #[.int .i64 v.m.n, .int .i64 v.m.s, vi, vh, vs, .int .i64 v.m.z, uk, uc]) := HP2.out.below hb
 have HRb2 : Hid (Bk w3 (w.heap.size + 1) 60 #[.int .i64 0, .int .i64 0, .slice none 0 0, .slice none 0 0, .slice none 0 0, .int .i64 0, .slice none 0 0, .slice none 0 0]) := HR2.out.below hb
 have HQb2 : Hid (Bk w3 (w.heap.size + 1 + 1) 60 #[.int .i64 v.m.n, .int .i64 v.m.s, .slice ai v.m.i.length ci, .slice ah v.m.h.length ch, .slice ae v.m.e.length ce, .int .i64 v.m.z, .slice ak v.k.length ck, .slice none 0 0]) := HQ2.out.below hb
 have HM1b : Hid (∀ X, Turns (fun j => j = w.heap.size + 1 ∨ j = w.heap.size + 1 + 1) w3 X → IsM X (.agg #[.int .i64 v.m.n, .int .i64 v.m.s, .slice ai v.m.i.length ci, .slice ah v.m.h.length ch, .slice ae v.m.e.length ce, .int .i64 v.m.z]) v.m) := fun X hX => HM1.out X ((Turns.of_below hb).trans hX)
 clear HM1
 have HM1 := HM1b
 clear HM1b
 have HK1b : Hid (∀ X, Turns (fun j => j = w.heap.size + 1 ∨ j = w.heap.size + 1 + 1) w3 X → IsKs X (.slice ak v.k.length ck) v.k) := fun X hX => HK1.out X ((Turns.of_below hb).trans hX)
 clear HK1
 have HK1 := HK1b
 clear HK1b
 have HC1 : Hid (∀ X, Turns (fun j => j = w.heap.size + 1 ∨ j = w.heap.size + 1 + 1) w3 X → IsD X (.slice ac v.c.length cc) (vecsD v.c)) := fun X hX => (ho.turns hX (fun j hj e => by omega)).isD
 clear hb ho
 have qq7 := HQb2.out.cell (i := 7) rfl
 have qf2 := HQb2.out.free
 obtain ⟨V3, hV3⟩ : ∃ V3, (w3.setCell ⟨(w.heap.size + 1 + 1), 7, none⟩ (.slice ac v.c.length cc)) = V3 := ⟨_, rfl⟩
 have HY7 := HQb2.out
 obtain ⟨Y8, hY8⟩ : ∃ Y8, w3.setCell ⟨(w.heap.size + 1 + 1), 7, none⟩ (.slice ac v.c.length cc) = Y8 := ⟨_, rfl⟩
 have HY8 : Bk Y8 (w.heap.size + 1 + 1) 60 #[.int .i64 v.m.n, .int .i64 v.m.s, .slice ai v.m.i.length ci, .slice ah v.m.h.length ch, .slice ae v.m.e.length ce, .int .i64 v.m.z, .slice ak v.k.length ck, .slice ac v.c.length cc] := hY8 ▸ HY7.put 7 _
 clear HY7
 have hYV : Y8 = V3 := by rw [← hV3, hY8]
 have HQ3 : Hid (Bk V3 (w.heap.size + 1 + 1) 60 #[.int .i64 v.m.n, .int .i64 v.m.s, .slice ai v.m.i.length ci, .slice ah v.m.h.length ch, .slice ae v.m.e.length ce, .int .i64 v.m.z, .slice ak v.k.length ck, .slice ac v.c.length cc]) := hYV ▸ HY8
 clear HY8 hYV hY8
 have HP3 : Hid (Bk V3 w.heap.size 55 #[.int .i64 v.m.n, .int .i64 v.m.s, vi, vh, vs, .int .i64 v.m.z, uk, uc]) := by rw [← hV3]; exact (HPb2.out.other 7 _ (by omega))
 have HR3 : Hid (Bk V3 (w.heap.size + 1) 60 #[.int .i64 0, .int .i64 0, .slice none 0 0, .slice none 0 0, .slice none 0 0, .int .i64 0, .slice none 0 0, .slice none 0 0]) := by rw [← hV3]; exact (HRb2.out.other 7 _ (by omega))
 have HT3 : Hid (Turns (fun j => j = (w.heap.size + 1 + 1)) w3 V3) := by rw [← hV3]; exact put1_turns _ _ 7 _
 have hy3 : w3.heap.size ≤ V3.heap.size := HT3.out.size
 have HX3 : Hid (Below w.heap.size w V3) := HXb2.out.trans (HT3.out.to_below (fun j e => by omega) (by omega))
 have HM1b : Hid (∀ X, Turns (fun j => j = w.heap.size + 1 ∨ j = w.heap.size + 1 + 1) V3 X → IsM X (.agg #[.int .i64 v.m.n, .int .i64 v.m.s, .slice ai v.m.i.length ci, .slice ah v.m.h.length ch, .slice ae v.m.e.length ce, .int .i64 v.m.z]) v.m) := fun X hX => HM1.out X ((HT3.out.mono (fun j e => .inr e)).trans hX)
 clear HM1
 have HM1 := HM1b
 clear HM1b
 have HK1b : Hid (∀ X, Turns (fun j => j = w.heap.size + 1 ∨ j = w.heap.size + 1 + 1) V3 X → IsKs X (.slice ak v.k.length ck) v.k) := fun X hX => HK1.out X ((HT3.out.mono (fun j e => .inr e)).trans hX)
 clear HK1
 have HK1 := HK1b
 clear HK1b
 have HC1b : Hid (∀ X, Turns (fun j => j = w.heap.size + 1 ∨ j = w.heap.size + 1 + 1) V3 X → IsD X (.slice ac v.c.length cc) (vecsD v.c)) := fun X hX => HC1.out X ((HT3.out.mono (fun j e => .inr e)).trans hX)
 clear HC1
 have HC1 := HC1b
 clear HC1b
 clear HP2 HR2 HQ2 HX2 HPb2 HRb2 HQb2 HXb2
 have oo0 := HQ3.out.cell (i := 0) rfl
 have rr0 := HR3.out.cell (i := 0) rfl
 have oo1 := HQ3.out.cell (i := 1) rfl
 have rr1 := HR3.out.cell (i := 1) rfl
 have oo2 := HQ3.out.cell (i := 2) rfl
 have rr2 := HR3.out.cell (i := 2) rfl
 have oo3 := HQ3.out.cell (i := 3) rfl
 have rr3 := HR3.out.cell (i := 3) rfl
 have oo4 := HQ3.out.cell (i := 4) rfl
 have rr4 := HR3.out.cell (i := 4) rfl
 have oo5 := HQ3.out.cell (i := 5) rfl
 have rr5 := HR3.out.cell (i := 5) rfl
 have oo6 := HQ3.out.cell (i := 6) rfl
 have rr6 := HR3.out.cell (i := 6) rfl
 have oo7 := HQ3.out.cell (i := 7) rfl
 have rr7 := HR3.out.cell (i := 7) rfl
 have rf := HR3.out.free
 go_wp2
 clear rf oo0 rr0 oo1 rr1 oo2 rr2 oo3 rr3 oo4 rr4 oo5 rr5 oo6 rr6 oo7 rr7 qq7 qf2 hV3
 have HY0 := HR3.out
 have HU0 : Turns (fun j => j = (w.heap.size + 1)) V3 V3 := Turns.refl _ _
 obtain ⟨Y1, hY1⟩ : ∃ Y1, V3.setCell ⟨(w.heap.size + 1), 0, none⟩ (.int .i64 v.m.n) = Y1 := ⟨_, rfl⟩
 have HY1 : Bk Y1 (w.heap.size + 1) 60 #[.int .i64 v.m.n, .int .i64 0, .slice none 0 0, .slice none 0 0, .slice none 0 0, .int .i64 0, .slice none 0 0, .slice none 0 0] := hY1 ▸ HY0.put 0 _
 have HU1 : Turns (fun j => j = (w.heap.size + 1)) V3 Y1 := HU0.trans (hY1 ▸ put1_turns _ _ 0 _)
 clear HY0 HU0
 obtain ⟨Y2, hY2⟩ : ∃ Y2, Y1.setCell ⟨(w.heap.size + 1), 1, none⟩ (.int .i64 v.m.s) = Y2 := ⟨_, rfl⟩
 have HY2 : Bk Y2 (w.heap.size + 1) 60 #[.int .i64 v.m.n, .int .i64 v.m.s, .slice none 0 0, .slice none 0 0, .slice none 0 0, .int .i64 0, .slice none 0 0, .slice none 0 0] := hY2 ▸ HY1.put 1 _
 have HU2 : Turns (fun j => j = (w.heap.size + 1)) V3 Y2 := HU1.trans (hY2 ▸ put1_turns _ _ 1 _)
 clear HY1 HU1
 obtain ⟨Y3, hY3⟩ : ∃ Y3, Y2.setCell ⟨(w.heap.size + 1), 2, none⟩ (.slice ai v.m.i.length ci) = Y3 := ⟨_, rfl⟩
 have HY3 : Bk Y3 (w.heap.size + 1) 60 #[.int .i64 v.m.n, .int .i64 v.m.s, .slice ai v.m.i.length ci, .slice none 0 0, .slice none 0 0, .int .i64 0, .slice none 0 0, .slice none 0 0] := hY3 ▸ HY2.put 2 _
 have HU3 : Turns (fun j => j = (w.heap.size + 1)) V3 Y3 := HU2.trans (hY3 ▸ put1_turns _ _ 2 _)
 clear HY2 HU2
 obtain ⟨Y4, hY4⟩ : ∃ Y4, Y3.setCell ⟨(w.heap.size + 1), 3, none⟩ (.slice ah v.m.h.length ch) = Y4 := ⟨_, rfl⟩
 have HY4 : Bk Y4 (w.heap.size + 1) 60 #[.int .i64 v.m.n, .int .i64 v.m.s, .slice ai v.m.i.length ci, .slice ah v.m.h.length ch, .slice none 0 0, .int .i64 0, .slice none 0 0, .slice none 0 0] := hY4 ▸ HY3.put 3 _
 have HU4 : Turns (fun j => j = (w.heap.size + 1)) V3 Y4 := HU3.trans (hY4 ▸ put1_turns _ _ 3 _)
 clear HY3 HU3
 obtain ⟨Y5, hY5⟩ : ∃ Y5, Y4.setCell ⟨(w.heap.size + 1), 4, none⟩ (.slice ae v.m.e.length ce) = Y5 := ⟨_, rfl⟩
 have HY5 : Bk Y5 (w.heap.size + 1) 60 #[.int .i64 v.m.n, .int .i64 v.m.s, .slice ai v.m.i.length ci, .slice ah v.m.h.length ch, .slice ae v.m.e.length ce, .int .i64 0, .slice none 0 0, .slice none 0 0] := hY5 ▸ HY4.put 4 _
 have HU5 : Turns (fun j => j = (w.heap.size + 1)) V3 Y5 := HU4.trans (hY5 ▸ put1_turns _ _ 4 _)
 clear HY4 HU4
 obtain ⟨Y6, hY6⟩ : ∃ Y6, Y5.setCell ⟨(w.heap.size + 1), 5, none⟩ (.int .i64 v.m.z) = Y6 := ⟨_, rfl⟩
 have HY6 : Bk Y6 (w.heap.size + 1) 60 #[.int .i64 v.m.n, .int .i64 v.m.s, .slice ai v.m.i.length ci, .slice ah v.m.h.length ch, .slice ae v.m.e.length ce, .int .i64 v.m.z, .slice none 0 0, .slice none 0 0] := hY6 ▸ HY5.put 5 _
 have HU6 : Turns (fun j => j = (w.heap.size + 1)) V3 Y6 := HU5.trans (hY6 ▸ put1_turns _ _ 5 _)
 clear HY5 HU5
 obtain ⟨Y7, hY7⟩ : ∃ Y7, Y6.setCell ⟨(w.heap.size + 1), 6, none⟩ (.slice ak v.k.length ck) = Y7 := ⟨_, rfl⟩
 have HY7 : Bk Y7 (w.heap.size + 1) 60 #[.int .i64 v.m.n, .int .i64 v.m.s, .slice ai v.m.i.length ci, .slice ah v.m.h.length ch, .slice ae v.m.e.length ce, .int .i64 v.m.z, .slice ak v.k.length ck, .slice none 0 0] := hY7 ▸ HY6.put 6 _
 have HU7 : Turns (fun j => j = (w.heap.size + 1)) V3 Y7 := HU6.trans (hY7 ▸ put1_turns _ _ 6 _)
 clear HY6 HU6
 obtain ⟨Y8, hY8⟩ : ∃ Y8, Y7.setCell ⟨(w.heap.size + 1), 7, none⟩ (.slice ac v.c.length cc) = Y8 := ⟨_, rfl⟩
 have HY8 : Bk Y8 (w.heap.size + 1) 60 #[.int .i64 v.m.n, .int .i64 v.m.s, .slice ai v.m.i.length ci, .slice ah v.m.h.length ch, .slice ae v.m.e.length ce, .int .i64 v.m.z, .slice ak v.k.length ck, .slice ac v.c.length cc] := hY8 ▸ HY7.put 7 _
 have HU8 : Turns (fun j => j = (w.heap.size + 1)) V3 Y8 := HU7.trans (hY8 ▸ put1_turns _ _ 7 _)
 clear HY7 HU7
 rw [hY1, hY2, hY3, hY4, hY5, hY6, hY7, hY8]
 have hR := HY8
 have hT := HU8
 have t0 := hR.cell (i := 0) rfl
 have t1 := hR.cell (i := 1) rfl
 have t2 := hR.cell (i := 2) rfl
 have t3 := hR.cell (i := 3) rfl
 have t4 := hR.cell (i := 4) rfl
 have t5 := hR.cell (i := 5) rfl
 have t6 := hR.cell (i := 6) rfl
 have t7 := hR.cell (i := 7) rfl
 have hT2 := hT.mono (fun j (e : j = (w.heap.size + 1)) => (.inl e : j = w.heap.size + 1 ∨ j = w.heap.size + 1 + 1))
 refine bodyPost_ret (v := .agg #[.int .i64 v.m.n, .int .i64 v.m.s, .slice ai v.m.i.length ci, .slice ah v.m.h.length ch, .slice ae v.m.e.length ce, .int .i64 v.m.z, .slice ak v.k.length ck, .slice ac v.c.length cc]) (by simp [results, Tryz.results27, go_sem, t0, t1, t2, t3, t4, t5, t6, t7]) rfl ⟨_, rfl, HX3.out.trans (hT.to_below (fun j e => by omega) (by omega)), _, _, _, _, _, rfl, HM1.out _ hT2, HK1.out _ hT2, HC1.out _ hT2⟩
end Go.Proofs.YtnlhcdchmgfipaaGreat
