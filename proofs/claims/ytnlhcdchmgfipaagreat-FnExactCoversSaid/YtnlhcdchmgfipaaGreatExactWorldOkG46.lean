/- WTo, LawWorldOkW, OpenS, VOpen, MOpen, SOpen, TPtO -/
import Derived.Test.YtnlhcdchmgfipaaGreatExactWorldOkG06
import Derived.Test.YtnlhcdchmgfipaaGreatExactWorldOkLKKt
import Derived.Test.YtnlhcdchmgfipaaGreatExactWorldOkG43
import Derived.Test.YtnlhcdchmgfipaaGreatExactWorldOkLWSp
import Derived.Test.YtnlhcdchmgfipaaGreatExactWorldOkG44
import Derived.Deep.RegionHeld3
import Derived.Test.YtnlhcdchmgfipaaGreatExactWorldOkG18
import Derived.Test.YtnlhcdchmgfipaaGreatExactWorldOkG01
import Derived.ProofKit
import Derived.ChangeOld
import Derived.OpenShut
import Derived.SizedLaws
import Derived.Test.YtnlhcdchmgfipaaGreatExactWorldOkG04
/- A world: a copy of its own. -/
namespace Go.Proofs.YtnlhcdchmgfipaaGreat
open Go.RowKit
theorem infoKern : (Tryz.prog.info? 42).map (fun i => (i.zero, i.size, i.bytes)) = some (some (.agg #[.int .i64 0, .int .i64 0, .slice none 0 0, .slice none 0 0, .slice none 0 0, .int .i64 0, .slice none 0 0, .slice none 0 0, .slice none 0 0, .int .i64 0, .int .i64 0, .bool false, .slice none 0 0, .slice none 0 0]), 14, 240) := by kernel_rfl
theorem put14_is (w : World) (g m : Nat) (v0 v1 v2 v3 v4 v5 v6 v7 v8 v9 v10 v11 v12 v13 : Value) : ((((((((((((((w.setCell ⟨g, m, none⟩ (v0)).setCell ⟨g, m + 1, none⟩ (v1)).setCell ⟨g, m + 2, none⟩ (v2)).setCell ⟨g, m + 3, none⟩ (v3)).setCell ⟨g, m + 4, none⟩ (v4)).setCell ⟨g, m + 5, none⟩ (v5)).setCell ⟨g, m + 6, none⟩ (v6)).setCell ⟨g, m + 7, none⟩ (v7)).setCell ⟨g, m + 8, none⟩ (v8)).setCell ⟨g, m + 9, none⟩ (v9)).setCell ⟨g, m + 10, none⟩ (v10)).setCell ⟨g, m + 11, none⟩ (v11)).setCell ⟨g, m + 12, none⟩ (v12)).setCell ⟨g, m + 13, none⟩ (v13)) = w.setCells g m [v0, v1, v2, v3, v4, v5, v6, v7, v8, v9, v10, v11, v12, v13] := rfl
theorem setCells_turns (g : Nat) : ∀ (vs : List Value) (m : Nat) (w : World), Turns (fun k => k = g) w (w.setCells g m vs)
 | [], _, w => Turns.refl _ w
 | v :: vs, m, w => (put1_turns w g m v).trans (setCells_turns g vs (m + 1) (w.setCell ⟨g, m, none⟩ v))
theorem KernF.form {F : Nat → Prop} {w : World} {y : Value} {k : Kn} (h : KernF F w y k) : ∃ ai ci ah ch ae ce a6 c6 a7 c7 a8 c8 a12 c12 a13 c13, y = .agg #[.int .i64 k.m.n, .int .i64 k.m.s, .slice ai k.m.i.length ci, .slice ah k.m.h.length ch, .slice ae k.m.e.length ce, .int .i64 k.m.z, .slice a6 k.d.length c6, .slice a7 k.p.length c7, .slice a8 k.b.length c8, .int .i64 k.t, .int .i64 k.q, .bool k.f, .slice a12 k.s.length c12, .slice a13 k.x.length c13] := by
 obtain ⟨A0, A6, A7, A8, A12, A13, vi, vh, vs, u6, u7, u8, u12, u13, rfl, hm, h6, h7, h8, h12, h13, _⟩ := h
 obtain ⟨ai, ci, ah, ch, ae, ce, hE⟩ := MdF.form hm
 cases hE
 obtain ⟨a6, c6, rfl, _⟩ := OwnD.parts (c := 1) (n := k.d.length) h6
 obtain ⟨a7, c7, rfl, _⟩ := OwnD.parts (c := 7) (n := k.p.length) h7
 obtain ⟨a8, c8, rfl, _⟩ := OwnD.parts (c := 8) (n := k.b.length) h8
 obtain ⟨a12, c12, rfl, _⟩ := OwnD.parts (c := 7) (n := k.s.length) h12
 obtain ⟨a13, c13, rfl, _⟩ := OwnD.parts (c := 3) (n := k.x.length) h13
 exact ⟨ai, ci, ah, ch, ae, ce, a6, c6, a7, c7, a8, c8, a12, c12, a13, c13, rfl⟩
theorem KernF.mono {F F' : Nat → Prop} {w : World} {y : Value} {k : Kn} (h : KernF F w y k) (hF : ∀ j, F j → F' j) : KernF F' w y k := by
 obtain ⟨A0, A6, A7, A8, A12, A13, vi, vh, vs, u6, u7, u8, u12, u13, e, hm, h6, h7, h8, h12, h13, d0, d6, d7, d8, d12, d13⟩ := h
 exact ⟨A0, A6, A7, A8, A12, A13, vi, vh, vs, u6, u7, u8, u12, u13, e, hm, h6, h7, h8, h12, h13, fun j hj => ⟨hF j (d0 j hj).1, (d0 j hj).2⟩, fun j hj => ⟨hF j (d6 j hj).1, (d6 j hj).2⟩, fun j hj => ⟨hF j (d7 j hj).1, (d7 j hj).2⟩, fun j hj => ⟨hF j (d8 j hj).1, (d8 j hj).2⟩, fun j hj => ⟨hF j (d12 j hj).1, (d12 j hj).2⟩, fun j hj => hF j (d13 j hj)⟩
def KFill (w : World) (g n k : Nat) (l : List Kn) : Prop := (∀ j, j < n * 14 → ∃ u, w.cell? ⟨g, j, none⟩ = some u ∧ w.frozen? ⟨g, j, none⟩ = false) ∧ g < w.heap.size ∧ ∀ i, i < k → ∃ vs : List Value, vs.length = 14 ∧ (∀ r v, vs[r]? = some v → w.cell? ⟨g, i * 14 + r, none⟩ = some v) ∧ KernF (fun j => g < j ∧ j < w.heap.size) w (.agg vs.toArray) (knAt l i)
theorem KFill.turns {S : Nat → Prop} {w w' : World} {g n k : Nat} {l : List Kn} (h : KFill w g n k l) (ht : Turns S w w') (hS : ∀ j, S j → w.heap.size ≤ j) : KFill w' g n k l := by
 obtain ⟨h1, h2, h3⟩ := h
 have hg : ¬ S g := fun e => by have := hS g e; omega
 refine ⟨fun j hj => ?_, Nat.lt_of_lt_of_le h2 ht.size, fun i hi => ?_⟩
 ·rw [ht.cell h2 hg, ht.frozen h2 hg]
  exact h1 j hj
 ·obtain ⟨vs, e1, e2, e3⟩ := h3 i hi
  exact ⟨vs, e1, fun r v hv => (ht.cell h2 hg).trans (e2 r v hv), (e3.turns ht (fun j hj e => by have := hS j e; omega)).mono (fun j hj => ⟨hj.1, Nat.lt_of_lt_of_le hj.2 ht.size⟩)⟩
theorem KFill.low {S : Nat → Prop} {w w' : World} {g n k : Nat} {l : List Kn} (h : KFill w g n k l) (ht : Turns S w w') (hS : ∀ j, S j → j < g) : KFill w' g n k l := by
 obtain ⟨h1, h2, h3⟩ := h
 have hg : ¬ S g := fun e => by have := hS g e; omega
 refine ⟨fun j hj => ?_, Nat.lt_of_lt_of_le h2 ht.size, fun i hi => ?_⟩
 ·rw [ht.cell h2 hg, ht.frozen h2 hg]
  exact h1 j hj
 ·obtain ⟨vs, e1, e2, e3⟩ := h3 i hi
  exact ⟨vs, e1, fun r v hv => (ht.cell h2 hg).trans (e2 r v hv), (e3.turns ht (fun j hj e => by have := hS j e; omega)).mono (fun j hj => ⟨hj.1, Nat.lt_of_lt_of_le hj.2 ht.size⟩)⟩
theorem KFill.put {w : World} {g n k : Nat} {l : List Kn} {vs : List Value} (h : KFill w g n k l) (hk : k < n) (hl : vs.length = 14) (hF : KernF (fun j => g < j ∧ j < w.heap.size) w (.agg vs.toArray) (knAt l k)) : KFill (w.setCells g (k * 14) vs) g n (k + 1) l := by
 obtain ⟨h1, h2, h3⟩ := h
 have ht := setCells_turns g vs (k * 14) w
 have hin := World.cell?_setCells_in g vs (k * 14) w (fun i hi => by
  obtain ⟨u, hu, _⟩ := h1 (k * 14 + i) (by omega)
  rw [hu]; rfl)
 have hout : ∀ j, ¬ (k * 14 ≤ j ∧ j < k * 14 + 14) → (w.setCells g (k * 14) vs).cell? ⟨g, j, none⟩ = w.cell? ⟨g, j, none⟩ := fun j hj => World.cell?_setCells_out g vs (k * 14) w ⟨g, j, none⟩ (fun i hi => by simp; omega)
 have hfr : ∀ j, (w.setCells g (k * 14) vs).frozen? ⟨g, j, none⟩ = w.frozen? ⟨g, j, none⟩ := fun j => by rw [World.frozen?_setCells]
 refine ⟨fun j hj => ?_, Nat.lt_of_lt_of_le h2 ht.size, fun i hi => ?_⟩
 ·rw [hfr]
  obtain ⟨u, hu, hz⟩ := h1 j hj
  by_cases hjr : k * 14 ≤ j ∧ j < k * 14 + 14
  ·have h9 := hin (j - k * 14) (by omega)
   rw [show k * 14 + (j - k * 14) = j from by omega] at h9
   exact ⟨_, h9, hz⟩
  ·rw [hout j hjr]
   exact ⟨u, hu, hz⟩
 ·by_cases hik : i < k
  ·obtain ⟨us, e1, e2, e3⟩ := h3 i hik
   refine ⟨us, e1, fun r v hv => ?_, (e3.turns ht (fun j hj e => by omega)).mono (fun j hj => ⟨hj.1, Nat.lt_of_lt_of_le hj.2 ht.size⟩)⟩
   have hr : r < us.length := (List.getElem?_eq_some_iff.1 hv).1
   rw [hout (i * 14 + r) (by omega)]
   exact e2 r v hv
  ·obtain rfl : i = k := by omega
   refine ⟨vs, hl, fun r v hv => ?_, (hF.turns ht (fun j hj e => by omega)).mono (fun j hj => ⟨hj.1, Nat.lt_of_lt_of_le hj.2 ht.size⟩)⟩
   obtain ⟨hr, hv'⟩ := List.getElem?_eq_some_iff.1 hv
   rw [hin r hr, hv']
theorem KFill.all {w : World} {g n cap : Nat} {l : List Kn} (h : KFill w g n n l) (hn : n = l.length) (hc1 : n ≤ cap) (hc2 : cap ≤ maxLen) : IsKs w (.slice (some ⟨g, 0, none⟩) n cap) l := by
 obtain ⟨_, h2, h3⟩ := h
 subst hn
 refine ⟨_, cap, rfl, hc1, hc2, .inr ⟨g, 0, rfl, h2, fun i hi => ?_⟩⟩
 obtain ⟨ws, e1, e2, e3⟩ := h3 i hi
 have hk := e3.is
 obtain ⟨vi, vh, vs, u6, u7, u8, u12, u13, hE, hm⟩ := id hk
 have hv : ws = [.int .i64 (knAt l i).m.n, .int .i64 (knAt l i).m.s, vi, vh, vs, .int .i64 (knAt l i).m.z, u6, u7, u8, .int .i64 (knAt l i).t, .int .i64 (knAt l i).q, .bool (knAt l i).f, u12, u13] := by
  have h9 := congrArg Array.toList (Value.agg.inj hE)
  simpa using h9
 subst hv
 rw [Nat.zero_add]
 exact ⟨vi, vh, vs, u6, u7, u8, u12, u13, ⟨e2 0 _ rfl, e2 1 _ rfl, e2 2 _ rfl, e2 3 _ rfl, e2 4 _ rfl, e2 5 _ rfl, e2 6 _ rfl, e2 7 _ rfl, e2 8 _ rfl, e2 9 _ rfl, e2 10 _ rfl, e2 11 _ rfl, e2 12 _ rfl, e2 13 _ rfl⟩, hk⟩
theorem made_fill {w1 : World} {g n : Nat} {l : List Kn} {B : Nat} {xs : List Value} (h : w1.ownsRow B 42 14 (.slice (some ⟨g, 0, none⟩) n n) n xs) : KFill w1 g n 0 l := by
 obtain ⟨_, ⟨e, _⟩ | ⟨g', cap, cur, e, _, hc, h1, h2, h3, h4⟩⟩ := h
 ·cases e
 ·cases e
  have hlt : g < w1.heap.size := (Array.getElem?_eq_some_iff.1 hc).1
  refine ⟨fun j hj => ?_, hlt, fun i hi => by omega⟩
  have hjc : j < cur.size := by rw [h3]; exact hj
  refine ⟨cur[j], ?_, by simp [World.frozen?, hc]⟩
  simp [World.cell?, hc, hjc]
set_option maxRecDepth 100000 in
set_option maxHeartbeats 8000000 in
theorem to_kernels (x : Value) (l : List Kn) (w : World) (hl : SmallKs l) (h : IsKs w x l) :
  Calls Tryz.prog 85 #[x] w fun e w' => ∃ y, e = .returned y ∧ Below w.heap.size w w' ∧ (∀ {S : Nat → Prop} (X : World), Turns S w' X → (∀ j, S j → j < w.heap.size) → IsKs X y l) ∧ ∃ a cap, y = .slice a l.length cap := by
 obtain ⟨a, cap, rfl, h1, h2, h⟩ := h
 have HS : Hid (SmallKs l) := hl
 have hl2 : l.length ≤ 1048576 := hl.1
 have hp : (0 : Int) ≤ (l.length : Int) := by omega
 clear hl
 obtain ⟨i0, hi, hz0, hz1, hz2⟩ := info_parts infoKern
 go_enter Tryz.func85, Tryz.ntmps85
 go_wp2_with (at_make; refine wpList_make_full _ rfl _ _ 58 rfl w.heap.size 42 i0 _ 14 Tryz.underlying58 hi hz0 hz1 .i64 .i64 l.length l.length l.length rfl rfl rfl rfl (by rw [hz2]; omega) (by unfold maxLen; omega) (Nat.le_refl _) ?_; intro w1 hown hgrow)
 have hB1 : Hid (Below w.heap.size w w1) := (Below.refl _ _).grown hgrow (Nat.le_refl _) (fun k e => by cases e)
 have hR1 : Hid (KFill w1 w.heap.size l.length 0 l) := made_fill hown
 clear hown hgrow hi hz0 hz1 hz2
 go_loopw [4] (fun i wr => ∃ k : Nat, k ≤ l.length ∧ i = .int .i64 k ∧ Below w.heap.size w wr ∧ KFill wr w.heap.size l.length k l) (fun i _ => l.length - (intOf i).toNat)
 case atStart => exact ⟨0, Nat.zero_le _, rfl, hB1.out, hR1.out⟩
 case round =>
  obtain ⟨k, hk, rfl, hB, hR⟩ := hrel
  have HB : Hid (Below w.heap.size w wr) := hB
  have HR : Hid (KFill wr w.heap.size l.length k l) := hR
  clear hR
  by_cases hlt : k < l.length
  ·obtain ⟨b, off, rfl, hb, hc⟩ := h.resolve_left (by omega)
   obtain ⟨vi, vh, vs, u6, u7, u8, u12, u13, ⟨f0, f1, f2, f3, f4, f5, f6, f7, f8, f9, f10, f11, f12, f13⟩, hD⟩ := (hc k hlt).under hb hB
   have HD : Hid (IsKern wr (.agg #[.int .i64 (knAt l k).m.n, .int .i64 (knAt l k).m.s, vi, vh, vs, .int .i64 (knAt l k).m.z, u6, u7, u8, .int .i64 (knAt l k).t, .int .i64 (knAt l k).q, .bool (knAt l k).f, u12, u13]) (knAt l k)) := hD
   have hg : w.heap.size < wr.heap.size := HR.out.2.1
   clear hB hB1 hR1 h hc hD
   go_wp2_with fail
   clear f0 f1 f2 f3 f4 f5 f6 f7 f8 f9 f10 f11 f12 f13
   refine (toKernel_any _ (knAt l k) _ (HS.out.2 k hlt) HD.out).mono ?_
   rintro e w2 ⟨y, rfl, hb2, hF⟩
   obtain ⟨ai, ci, ah, ch, ae, ce, a6, c6, a7, c7, a8, c8, a12, c12, a13, c13, rfl⟩ := hF.form
   have HB2 : Hid (Below wr.heap.size wr w2) := hb2
   have HF : Hid (KernF (fun j => wr.heap.size ≤ j ∧ j < w2.heap.size) w2 (.agg #[.int .i64 (knAt l k).m.n, .int .i64 (knAt l k).m.s, .slice ai (knAt l k).m.i.length ci, .slice ah (knAt l k).m.h.length ch, .slice ae (knAt l k).m.e.length ce, .int .i64 (knAt l k).m.z, .slice a6 (knAt l k).d.length c6, .slice a7 (knAt l k).p.length c7, .slice a8 (knAt l k).b.length c8, .int .i64 (knAt l k).t, .int .i64 (knAt l k).q, .bool (knAt l k).f, .slice a12 (knAt l k).s.length c12, .slice a13 (knAt l k).x.length c13]) (knAt l k)) := hF
   have HR2 : Hid (KFill w2 w.heap.size l.length k l) := HR.out.turns (S := fun _ => False) (Turns.of_below hb2) (fun _ e => e.elim)
   obtain ⟨x0, g0, z0⟩ := HR2.out.1 (k * 14) (by omega)
   obtain ⟨x1, g1, z1⟩ := HR2.out.1 (k * 14 + 1) (by omega)
   obtain ⟨x2, g2, z2⟩ := HR2.out.1 (k * 14 + 2) (by omega)
   obtain ⟨x3, g3, z3⟩ := HR2.out.1 (k * 14 + 3) (by omega)
   obtain ⟨x4, g4, z4⟩ := HR2.out.1 (k * 14 + 4) (by omega)
   obtain ⟨x5, g5, z5⟩ := HR2.out.1 (k * 14 + 5) (by omega)
   obtain ⟨x6, g6, z6⟩ := HR2.out.1 (k * 14 + 6) (by omega)
   obtain ⟨x7, g7, z7⟩ := HR2.out.1 (k * 14 + 7) (by omega)
   obtain ⟨x8, g8, z8⟩ := HR2.out.1 (k * 14 + 8) (by omega)
   obtain ⟨x9, g9, z9⟩ := HR2.out.1 (k * 14 + 9) (by omega)
   obtain ⟨x10, g10, z10⟩ := HR2.out.1 (k * 14 + 10) (by omega)
   obtain ⟨x11, g11, z11⟩ := HR2.out.1 (k * 14 + 11) (by omega)
   obtain ⟨x12, g12, z12⟩ := HR2.out.1 (k * 14 + 12) (by omega)
   obtain ⟨x13, g13, z13⟩ := HR2.out.1 (k * 14 + 13) (by omega)
   clear hb2 hF
   go_wp2
   go_roundw
   case rel =>
    rw [put14_is]
    have hsz := HB2.out.size
    have hT := setCells_turns w.heap.size [.int .i64 (knAt l k).m.n, .int .i64 (knAt l k).m.s, .slice ai (knAt l k).m.i.length ci, .slice ah (knAt l k).m.h.length ch, .slice ae (knAt l k).m.e.length ce, .int .i64 (knAt l k).m.z, .slice a6 (knAt l k).d.length c6, .slice a7 (knAt l k).p.length c7, .slice a8 (knAt l k).b.length c8, .int .i64 (knAt l k).t, .int .i64 (knAt l k).q, .bool (knAt l k).f, .slice a12 (knAt l k).s.length c12, .slice a13 (knAt l k).x.length c13] (k * 14) w2
    refine ⟨k + 1, by omega, by go_num, (HB.out.trans (HB2.out.mono (by omega))).trans (hT.to_below (fun b e => by omega) (by omega)), HR2.out.put hlt rfl (HF.out.mono (fun j hj => ⟨by omega, hj.2⟩))⟩
   case measure => simp [intOf]; omega
  ·clear hB hB1 hR1 h
   go_wp2
   go_ret
   obtain rfl : k = l.length := by omega
   exact ⟨_, rfl, HB.out, fun X hX hS => KFill.all (HR.out.low hX hS) rfl (Nat.le_refl _) (by unfold maxLen; omega), _, _, rfl⟩
theorem infoInts : (Tryz.prog.info? 22).map (fun i => (i.zero, i.size, i.bytes)) = some (some (.slice none 0 0), 1, 24) := by kernel_rfl
set_option maxHeartbeats 8000000 in
theorem to_vecs (x : Value) (l : List (List Int)) (w : World) (hl : (vecsD l).wt ≤ 1048576) (h : IsD w x (vecsD l)) :
  Calls Tryz.prog 86 #[x] w fun e w' => ∃ y, e = .returned y ∧ Below w.heap.size w w' ∧ OwnD w' (fun k => w.heap.size ≤ k ∧ k < w'.heap.size) y (vecsD l) := by
 obtain ⟨a, cap, rfl, h1, h2, h⟩ := IsD.parts (c := 1) (n := l.length) h
 have HS : Hid ((vecsD l).wt ≤ 1048576) := hl
 have hl2 : l.length ≤ 1048576 := by rw [vecs_wt] at hl; omega
 have hp : (0 : Int) ≤ (l.length : Int) := by omega
 clear hl
 obtain ⟨i0, hi, hz0, hz1, hz2⟩ := info_parts infoInts
 go_enter Tryz.func86, Tryz.ntmps86
 go_wp2_with (at_make; refine wpList_make_full _ rfl _ _ 53 rfl w.heap.size 22 i0 _ 1 Tryz.underlying53 hi hz0 hz1 .i64 .i64 l.length l.length l.length rfl rfl rfl rfl (by rw [hz2]; omega) (by unfold maxLen; omega) (Nat.le_refl _) ?_; intro w1 hown hgrow)
 have hB1 : Hid (Below w.heap.size w w1) := (Below.refl _ _).grown hgrow (Nat.le_refl _) (fun k e => by cases e)
 obtain ⟨zs, hR0⟩ := OwnD.made0 (vecsD_f l) hown
 have hR1 : Hid (OwnD w1 (fun k => w.heap.size ≤ k ∧ k < w1.heap.size) (sl w.heap.size l.length) (.row 1 l.length (toC (vecsD_f l) zs 0))) := hR0
 clear hown hgrow hi hz0 hz1 hz2 hR0
 go_loopw [4] (fun i wr => ∃ k : Nat, k ≤ l.length ∧ i = .int .i64 k ∧ Below w.heap.size w wr ∧ OwnD wr (fun k => w.heap.size ≤ k ∧ k < wr.heap.size) (sl w.heap.size l.length) (.row 1 l.length (toC (vecsD_f l) zs k))) (fun i _ => l.length - (intOf i).toNat)
 case atStart => exact ⟨0, Nat.zero_le _, rfl, hB1.out, hR1.out⟩
 case round =>
  obtain ⟨k, hk, rfl, hB, hR⟩ := hrel
  have HB : Hid (Below w.heap.size w wr) := hB
  have HR : Hid (OwnD wr (fun k => w.heap.size ≤ k ∧ k < wr.heap.size) (sl w.heap.size l.length) (.row 1 l.length (toC (vecsD_f l) zs k))) := hR
  clear hR
  by_cases hlt : k < l.length
  ·obtain ⟨b, off, rfl, hb, hc⟩ := h.resolve_left (by omega)
   obtain ⟨u, hu, hd⟩ := hc k (by omega)
   have f0 := (hB.cell (p := ⟨b, off + k, none⟩) hb).trans hu
   have HD : Hid (IsD wr u (intsD (vAt l k))) := hd.under hB
   have hg : w.heap.size < wr.heap.size := (HR.out.lt (by omega)).1
   clear hB hB1 hR1 h hc hd hu
   go_wp2_with fail
   clear f0
   refine (to_ints _ (vAt l k) _ (Nat.le_trans (vec_le hlt) HS.out) HD.out).mono ?_
   rintro e w2 ⟨y, rfl, hb2, o1⟩
   have HB2 : Hid (Below wr.heap.size wr w2) := hb2
   have HR2 : Hid (OwnD w2 (fun k => w.heap.size ≤ k ∧ k < wr.heap.size) (sl w.heap.size l.length) (.row 1 l.length (toC (vecsD_f l) zs k))) := HR.out.under hb2
   obtain ⟨a1, c1, rfl, _⟩ := OwnD.parts (c := 1) (n := (vAt l k).length) o1
   have O1 : Hid (OwnD w2 (fun k => wr.heap.size ≤ k ∧ k < w2.heap.size) (.slice a1 (vAt l k).length c1) (intsD (vAt l k))) := o1
   obtain ⟨x0, _, g0, z0, _⟩ := HR2.out.step (j := k) (by omega)
   clear hb2 o1
   go_wp2
   go_roundw
   case rel =>
    have q := OwnD.fillN (G := fun _ k => wr.heap.size ≤ k ∧ k < w2.heap.size) (U := fun _ => .slice a1 (vAt l k).length c1) HR2.out ⟨Nat.le_refl _, hg⟩ 1 (by omega) (fun i hi => by
     obtain rfl : i = 0 := by omega
     exact O1.out) (fun i _ b hb hb' => by omega) (fun i j _ _ hij b hb hb' => by omega)
    have hT := put1_turns w2 w.heap.size k (.slice a1 (vAt l k).length c1)
    have hsz := hT.size
    have hs2 := HB2.out.size
    refine ⟨k + 1, by omega, by go_num, (HB.out.trans (HB2.out.mono (by omega))).trans (hT.to_below (fun b e => by omega) (by omega)), ?_⟩
    refine OwnD.mono q (fun b hb => ?_)
    rcases hb with hb | ⟨i, _, hb⟩
    ·exact ⟨hb.1, Nat.lt_of_lt_of_le hb.2 (Nat.le_trans hs2 hsz)⟩
    ·exact ⟨by omega, Nat.lt_of_lt_of_le hb.2 hsz⟩
   case measure => simp [intOf]; omega
  ·clear hB hB1 hR1 h
   go_wp2
   go_ret
   obtain rfl : k = l.length := by omega
   exact ⟨_, rfl, HB.out, HR.out.toAll (by omega)⟩
set_option maxRecDepth 100000 in
set_option maxHeartbeats 8000000 in
theorem toWorld_any (x : Value) (v : Wd) (w : World) (hs : SmallWd v) (h : IsW w x v) :
  Calls Tryz.prog 27 #[x] w fun e w' => ∃ y, e = .returned y ∧ Below w.heap.size w w' ∧ IsW w' y v := by
 obtain ⟨vi, vh, vs, uk, uc, rfl, hm, hk, hc⟩ := h
 have HS : Hid (SmallWd v) := hs
 have HM : Hid (IsM w (.agg #[.int .i64 v.m.n, .int .i64 v.m.s, vi, vh, vs, .int .i64 v.m.z]) v.m) := hm
 have HK : Hid (IsKs w uk v.k) := hk
 have HC : Hid (IsD w uc (vecsD v.c)) := hc
 clear hs hm hk hc
 obtain ⟨V0, hV0⟩ : ∃ V0, ((w.alloc (.cells #[.int .i64 v.m.n, .int .i64 v.m.s, vi, vh, vs, .int .i64 v.m.z, uk, uc] 55)).alloc (.cells #[.int .i64 0, .int .i64 0, .slice none 0 0, .slice none 0 0, .slice none 0 0, .int .i64 0, .slice none 0 0, .slice none 0 0] 60)).alloc (.cells #[.int .i64 0, .int .i64 0, .slice none 0 0, .slice none 0 0, .slice none 0 0, .int .i64 0, .slice none 0 0, .slice none 0 0] 60) = V0 := ⟨_, rfl⟩
 have HX0 : Hid (Below w.heap.size w V0) := by rw [← hV0]; exact (((Below.refl _ w).alloc (Nat.le_refl _) _).alloc (by simp) _).alloc (by simp; omega) _
 have hs0 : w.heap.size + 3 ≤ V0.heap.size := by rw [← hV0]; simp
 have HP0 : Hid (Bk V0 w.heap.size 55 #[.int .i64 v.m.n, .int .i64 v.m.s, vi, vh, vs, .int .i64 v.m.z, uk, uc]) := by rw [← hV0]; exact ((Bk.new w _ _).alloc _).alloc _
 have HR0 : Hid (Bk V0 (w.heap.size + 1) 60 #[.int .i64 0, .int .i64 0, .slice none 0 0, .slice none 0 0, .slice none 0 0, .int .i64 0, .slice none 0 0, .slice none 0 0]) := by rw [← hV0]; exact (Bk.newAt (by simp) _ _).alloc _
 have HQ0 : Hid (Bk V0 (w.heap.size + 1 + 1) 60 #[.int .i64 0, .int .i64 0, .slice none 0 0, .slice none 0 0, .slice none 0 0, .int .i64 0, .slice none 0 0, .slice none 0 0]) := by rw [← hV0]; exact Bk.newAt (by simp) _ _
 have HW0 : Hid (((w.alloc (.cells #[.int .i64 v.m.n, .int .i64 v.m.s, vi, vh, vs, .int .i64 v.m.z, uk, uc] 55)).alloc (.cells #[.int .i64 0, .int .i64 0, .slice none 0 0, .slice none 0 0, .slice none 0 0, .int .i64 0, .slice none 0 0, .slice none 0 0] 60)).alloc (.cells #[.int .i64 0, .int .i64 0, .slice none 0 0, .slice none 0 0, .slice none 0 0, .int .i64 0, .slice none 0 0, .slice none 0 0] 60) = V0) := hV0
 clear hV0
 go_enter Tryz.func27, Tryz.ntmps27
 have p0 := HP0.out.cell (i := 0) rfl
 have p1 := HP0.out.cell (i := 1) rfl
 have p2 := HP0.out.cell (i := 2) rfl
 have p3 := HP0.out.cell (i := 3) rfl
 have p4 := HP0.out.cell (i := 4) rfl
 have p5 := HP0.out.cell (i := 5) rfl
 go_wp2_with fail
 rw [HW0.out]
 clear p0 p1 p2 p3 p4 p5
 refine (toModel_any _ v.m _ HS.out.1 (HM.out.below HX0.out)).mono ?_
 rintro e w1 ⟨y0, rfl, hb, ho⟩
 obtain ⟨ai, ci, ah, ch, ae, ce, rfl⟩ := MdF.form ho
 have hz0 : V0.heap.size ≤ w1.heap.size := hb.size
 have HXb0 : Hid (Below w.heap.size w w1) := HX0.out.trans (hb.mono (by omega))
 have HPb0 : Hid (Bk w1 w.heap.size 55 #[.int .i64 v.m.n, .int .i64 v.m.s, vi, vh, vs, .int .i64 v.m.z, uk, uc]) := HP0.out.below hb
 have HRb0 : Hid (Bk w1 (w.heap.size + 1) 60 #[.int .i64 0, .int .i64 0, .slice none 0 0, .slice none 0 0, .slice none 0 0, .int .i64 0, .slice none 0 0, .slice none 0 0]) := HR0.out.below hb
 have HQb0 : Hid (Bk w1 (w.heap.size + 1 + 1) 60 #[.int .i64 0, .int .i64 0, .slice none 0 0, .slice none 0 0, .slice none 0 0, .int .i64 0, .slice none 0 0, .slice none 0 0]) := HQ0.out.below hb
 have HM1 : Hid (∀ X, Turns (fun j => j = w.heap.size + 1 ∨ j = w.heap.size + 1 + 1) w1 X → IsM X (.agg #[.int .i64 v.m.n, .int .i64 v.m.s, .slice ai v.m.i.length ci, .slice ah v.m.h.length ch, .slice ae v.m.e.length ce, .int .i64 v.m.z]) v.m) := fun X hX => (ho.turns hX (fun j hj e => by omega)).isM
 clear hb ho
 have qq0 := HQb0.out.cell (i := 0) rfl
 have qq1 := HQb0.out.cell (i := 1) rfl
 have qq2 := HQb0.out.cell (i := 2) rfl
 have qq3 := HQb0.out.cell (i := 3) rfl
 have qq4 := HQb0.out.cell (i := 4) rfl
 have qq5 := HQb0.out.cell (i := 5) rfl
 have qf0 := HQb0.out.free
 obtain ⟨V1, hV1⟩ : ∃ V1, ((((((w1.setCell ⟨(w.heap.size + 1 + 1), 0, none⟩ (.int .i64 v.m.n)).setCell ⟨(w.heap.size + 1 + 1), 1, none⟩ (.int .i64 v.m.s)).setCell ⟨(w.heap.size + 1 + 1), 2, none⟩ (.slice ai v.m.i.length ci)).setCell ⟨(w.heap.size + 1 + 1), 3, none⟩ (.slice ah v.m.h.length ch)).setCell ⟨(w.heap.size + 1 + 1), 4, none⟩ (.slice ae v.m.e.length ce)).setCell ⟨(w.heap.size + 1 + 1), 5, none⟩ (.int .i64 v.m.z)) = V1 := ⟨_, rfl⟩
 have HY0 := HQb0.out
 obtain ⟨Y1, hY1⟩ : ∃ Y1, w1.setCell ⟨(w.heap.size + 1 + 1), 0, none⟩ (.int .i64 v.m.n) = Y1 := ⟨_, rfl⟩
 have HY1 : Bk Y1 (w.heap.size + 1 + 1) 60 #[.int .i64 v.m.n, .int .i64 0, .slice none 0 0, .slice none 0 0, .slice none 0 0, .int .i64 0, .slice none 0 0, .slice none 0 0] := hY1 ▸ HY0.put 0 _
 clear HY0
 obtain ⟨Y2, hY2⟩ : ∃ Y2, Y1.setCell ⟨(w.heap.size + 1 + 1), 1, none⟩ (.int .i64 v.m.s) = Y2 := ⟨_, rfl⟩
 have HY2 : Bk Y2 (w.heap.size + 1 + 1) 60 #[.int .i64 v.m.n, .int .i64 v.m.s, .slice none 0 0, .slice none 0 0, .slice none 0 0, .int .i64 0, .slice none 0 0, .slice none 0 0] := hY2 ▸ HY1.put 1 _
 clear HY1
 obtain ⟨Y3, hY3⟩ : ∃ Y3, Y2.setCell ⟨(w.heap.size + 1 + 1), 2, none⟩ (.slice ai v.m.i.length ci) = Y3 := ⟨_, rfl⟩
 have HY3 : Bk Y3 (w.heap.size + 1 + 1) 60 #[.int .i64 v.m.n, .int .i64 v.m.s, .slice ai v.m.i.length ci, .slice none 0 0, .slice none 0 0, .int .i64 0, .slice none 0 0, .slice none 0 0] := hY3 ▸ HY2.put 2 _
 clear HY2
 obtain ⟨Y4, hY4⟩ : ∃ Y4, Y3.setCell ⟨(w.heap.size + 1 + 1), 3, none⟩ (.slice ah v.m.h.length ch) = Y4 := ⟨_, rfl⟩
 have HY4 : Bk Y4 (w.heap.size + 1 + 1) 60 #[.int .i64 v.m.n, .int .i64 v.m.s, .slice ai v.m.i.length ci, .slice ah v.m.h.length ch, .slice none 0 0, .int .i64 0, .slice none 0 0, .slice none 0 0] := hY4 ▸ HY3.put 3 _
 clear HY3
 obtain ⟨Y5, hY5⟩ : ∃ Y5, Y4.setCell ⟨(w.heap.size + 1 + 1), 4, none⟩ (.slice ae v.m.e.length ce) = Y5 := ⟨_, rfl⟩
 have HY5 : Bk Y5 (w.heap.size + 1 + 1) 60 #[.int .i64 v.m.n, .int .i64 v.m.s, .slice ai v.m.i.length ci, .slice ah v.m.h.length ch, .slice ae v.m.e.length ce, .int .i64 0, .slice none 0 0, .slice none 0 0] := hY5 ▸ HY4.put 4 _
 clear HY4
 obtain ⟨Y6, hY6⟩ : ∃ Y6, Y5.setCell ⟨(w.heap.size + 1 + 1), 5, none⟩ (.int .i64 v.m.z) = Y6 := ⟨_, rfl⟩
 have HY6 : Bk Y6 (w.heap.size + 1 + 1) 60 #[.int .i64 v.m.n, .int .i64 v.m.s, .slice ai v.m.i.length ci, .slice ah v.m.h.length ch, .slice ae v.m.e.length ce, .int .i64 v.m.z, .slice none 0 0, .slice none 0 0] := hY6 ▸ HY5.put 5 _
 clear HY5
 have hYV : Y6 = V1 := by rw [← hV1, hY1, hY2, hY3, hY4, hY5, hY6]
 have HQ1 : Hid (Bk V1 (w.heap.size + 1 + 1) 60 #[.int .i64 v.m.n, .int .i64 v.m.s, .slice ai v.m.i.length ci, .slice ah v.m.h.length ch, .slice ae v.m.e.length ce, .int .i64 v.m.z, .slice none 0 0, .slice none 0 0]) := hYV ▸ HY6
 clear HY6 hYV hY6 hY5 hY4 hY3 hY2 hY1
 have HP1 : Hid (Bk V1 w.heap.size 55 #[.int .i64 v.m.n, .int .i64 v.m.s, vi, vh, vs, .int .i64 v.m.z, uk, uc]) := by rw [← hV1]; exact ((((((HPb0.out.other 0 _ (by omega)).other 1 _ (by omega)).other 2 _ (by omega)).other 3 _ (by omega)).other 4 _ (by omega)).other 5 _ (by omega))
 have HR1 : Hid (Bk V1 (w.heap.size + 1) 60 #[.int .i64 0, .int .i64 0, .slice none 0 0, .slice none 0 0, .slice none 0 0, .int .i64 0, .slice none 0 0, .slice none 0 0]) := by rw [← hV1]; exact ((((((HRb0.out.other 0 _ (by omega)).other 1 _ (by omega)).other 2 _ (by omega)).other 3 _ (by omega)).other 4 _ (by omega)).other 5 _ (by omega))
 have HT1 : Hid (Turns (fun j => j = (w.heap.size + 1 + 1)) w1 V1) := by rw [← hV1]; exact (((((put1_turns _ _ 0 _).trans (put1_turns _ _ 1 _)).trans (put1_turns _ _ 2 _)).trans (put1_turns _ _ 3 _)).trans (put1_turns _ _ 4 _)).trans (put1_turns _ _ 5 _)
 have hy1 : w1.heap.size ≤ V1.heap.size := HT1.out.size
 have HX1 : Hid (Below w.heap.size w V1) := HXb0.out.trans (HT1.out.to_below (fun j e => by omega) (by omega))
 have HM1b : Hid (∀ X, Turns (fun j => j = w.heap.size + 1 ∨ j = w.heap.size + 1 + 1) V1 X → IsM X (.agg #[.int .i64 v.m.n, .int .i64 v.m.s, .slice ai v.m.i.length ci, .slice ah v.m.h.length ch, .slice ae v.m.e.length ce, .int .i64 v.m.z]) v.m) := fun X hX => HM1.out X ((HT1.out.mono (fun j e => .inr e)).trans hX)
 clear HM1
 have HM1 := HM1b
 clear HM1b
 clear HP0 HR0 HQ0 HX0 HPb0 HRb0 HQb0 HXb0
 have p6 := HP1.out.cell (i := 6) rfl
 go_wp2_with fail
 clear qq0 qq1 qq2 qq3 qq4 qq5 qf0 hV1 p6
 refine (to_kernels _ v.k _ HS.out.2.1 (HK.out.under HX1.out)).mono ?_
 rintro e w2 ⟨y1, rfl, hb, ho, ak, ck, rfl⟩
 have hz1 : V1.heap.size ≤ w2.heap.size := hb.size
 have HXb1 : Hid (Below w.heap.size w w2) := HX1.out.trans (hb.mono (by omega))
 have HPb1 : Hid (Bk w2 w.heap.size 55 #[.int .i64 v.m.n, .int .i64 v.m.s, vi, vh, vs, .int .i64 v.m.z, uk, uc]) := HP1.out.below hb
 have HRb1 : Hid (Bk w2 (w.heap.size + 1) 60 #[.int .i64 0, .int .i64 0, .slice none 0 0, .slice none 0 0, .slice none 0 0, .int .i64 0, .slice none 0 0, .slice none 0 0]) := HR1.out.below hb
 have HQb1 : Hid (Bk w2 (w.heap.size + 1 + 1) 60 #[.int .i64 v.m.n, .int .i64 v.m.s, .slice ai v.m.i.length ci, .slice ah v.m.h.length ch, .slice ae v.m.e.length ce, .int .i64 v.m.z, .slice none 0 0, .slice none 0 0]) := HQ1.out.below hb
 have HM1b : Hid (∀ X, Turns (fun j => j = w.heap.size + 1 ∨ j = w.heap.size + 1 + 1) w2 X → IsM X (.agg #[.int .i64 v.m.n, .int .i64 v.m.s, .slice ai v.m.i.length ci, .slice ah v.m.h.length ch, .slice ae v.m.e.length ce, .int .i64 v.m.z]) v.m) := fun X hX => HM1.out X ((Turns.of_below hb).trans hX)
 clear HM1
 have HM1 := HM1b
 clear HM1b
 have HK1 : Hid (∀ X, Turns (fun j => j = w.heap.size + 1 ∨ j = w.heap.size + 1 + 1) w2 X → IsKs X (.slice ak v.k.length ck) v.k) := fun X hX => ho X hX (fun j hj => by omega)
 clear hb ho
 have qq6 := HQb1.out.cell (i := 6) rfl
 have qf1 := HQb1.out.free
 obtain ⟨V2, hV2⟩ : ∃ V2, (w2.setCell ⟨(w.heap.size + 1 + 1), 6, none⟩ (.slice ak v.k.length ck)) = V2 := ⟨_, rfl⟩
 have HY6 := HQb1.out
 obtain ⟨Y7, hY7⟩ : ∃ Y7, w2.setCell ⟨(w.heap.size + 1 + 1), 6, none⟩ (.slice ak v.k.length ck) = Y7 := ⟨_, rfl⟩
 have HY7 : Bk Y7 (w.heap.size + 1 + 1) 60 #[.int .i64 v.m.n, .int .i64 v.m.s, .slice ai v.m.i.length ci, .slice ah v.m.h.length ch, .slice ae v.m.e.length ce, .int .i64 v.m.z, .slice ak v.k.length ck, .slice none 0 0] := hY7 ▸ HY6.put 6 _
 clear HY6
 have hYV : Y7 = V2 := by rw [← hV2, hY7]
 have HQ2 : Hid (Bk V2 (w.heap.size + 1 + 1) 60 #[.int .i64 v.m.n, .int .i64 v.m.s, .slice ai v.m.i.length ci, .slice ah v.m.h.length ch, .slice ae v.m.e.length ce, .int .i64 v.m.z, .slice ak v.k.length ck, .slice none 0 0]) := hYV ▸ HY7
 clear HY7 hYV hY7
 have HP2 : Hid (Bk V2 w.heap.size 55 #[.int .i64 v.m.n, .int .i64 v.m.s, vi, vh, vs, .int .i64 v.m.z, uk, uc]) := by rw [← hV2]; exact (HPb1.out.other 6 _ (by omega))
 have HR2 : Hid (Bk V2 (w.heap.size + 1) 60 #[.int .i64 0, .int .i64 0, .slice none 0 0, .slice none 0 0, .slice none 0 0, .int .i64 0, .slice none 0 0, .slice none 0 0]) := by rw [← hV2]; exact (HRb1.out.other 6 _ (by omega))
 have HT2 : Hid (Turns (fun j => j = (w.heap.size + 1 + 1)) w2 V2) := by rw [← hV2]; exact put1_turns _ _ 6 _
 have hy2 : w2.heap.size ≤ V2.heap.size := HT2.out.size
 have HX2 : Hid (Below w.heap.size w V2) := HXb1.out.trans (HT2.out.to_below (fun j e => by omega) (by omega))
 have HM1b : Hid (∀ X, Turns (fun j => j = w.heap.size + 1 ∨ j = w.heap.size + 1 + 1) V2 X → IsM X (.agg #[.int .i64 v.m.n, .int .i64 v.m.s, .slice ai v.m.i.length ci, .slice ah v.m.h.length ch, .slice ae v.m.e.length ce, .int .i64 v.m.z]) v.m) := fun X hX => HM1.out X ((HT2.out.mono (fun j e => .inr e)).trans hX)
 clear HM1
 have HM1 := HM1b
 clear HM1b
 have HK1b : Hid (∀ X, Turns (fun j => j = w.heap.size + 1 ∨ j = w.heap.size + 1 + 1) V2 X → IsKs X (.slice ak v.k.length ck) v.k) := fun X hX => HK1.out X ((HT2.out.mono (fun j e => .inr e)).trans hX)
 clear HK1
 have HK1 := HK1b
 clear HK1b
 clear HP1 HR1 HQ1 HX1 HPb1 HRb1 HQb1 HXb1
 have p7 := HP2.out.cell (i := 7) rfl
 go_wp2_with fail
 clear qq6 qf1 hV2 p7
 refine (to_vecs _ v.c _ HS.out.2.2 (HC.out.under HX2.out)).mono ?_
 rintro e w3 ⟨y2, rfl, hb, ho⟩
 obtain ⟨ac, cc, rfl, _⟩ := OwnD.parts (c := 1) (n := v.c.length) ho
 have hz2 : V2.heap.size ≤ w3.heap.size := hb.size
 have HXb2 : Hid (Below w.heap.size w w3) := HX2.out.trans (hb.mono (by omega))
 have HPb2 : Hid (Bk w3 w.heap.size 55 #[.int .i64 v.m.n, .int .i64 v.m.s, vi, vh, vs, .int .i64 v.m.z, uk, uc]) := HP2.out.below hb
 have HRb2 : Hid (Bk w3 (w.heap.size + 1) 60 #[.int .i64 0, .int .i64 0, .slice none 0 0, .slice none 0 0, .slice none 0 0, .int .i64 0, .slice none 0 0, .slice none 0 0]) := HR2.out.below hb
 have HQb2 : Hid (Bk w3 (w.heap.size + 1 + 1) 60 #[.int .i64 v.m.n, .int .i64 v.m.s, .slice ai v.m.i.length ci, .slice ah v.m.h.length ch, .slice ae v.m.e.length ce, .int .i64 v.m.z, .slice ak v.k.length ck, .slice none 0 0]) := HQ2.out.below hb
 have HM1b : Hid (∀ X, Turns (fun j => j = w.heap.size + 1 ∨ j = w.heap.size + 1 + 1) w3 X → IsM X (.agg #[.int .i64 v.m.n, .int .i64 v.m.s, .slice ai v.m.i.length ci, .slice ah v.m.h.length ch, .slice ae v.m.e.length ce, .int .i64 v.m.z]) v.m) := fun X hX => HM1.out X ((Turns.of_below hb).trans hX)
 clear HM1
 have HM1 := HM1b
 clear HM1b
 have HK1b : Hid (∀ X, Turns (fun j => j = w.heap.size + 1 ∨ j = w.heap.size + 1 + 1) w3 X → IsKs X (.slice ak v.k.length ck) v.k) := fun X hX => HK1.out X ((Turns.of_below hb).trans hX)
 clear HK1
 have HK1 := HK1b
 clear HK1b
 have HC1 : Hid (∀ X, Turns (fun j => j = w.heap.size + 1 ∨ j = w.heap.size + 1 + 1) w3 X → IsD X (.slice ac v.c.length cc) (vecsD v.c)) := fun X hX => (ho.turns hX (fun j hj e => by omega)).isD
 clear hb ho
 have qq7 := HQb2.out.cell (i := 7) rfl
 have qf2 := HQb2.out.free
 obtain ⟨V3, hV3⟩ : ∃ V3, (w3.setCell ⟨(w.heap.size + 1 + 1), 7, none⟩ (.slice ac v.c.length cc)) = V3 := ⟨_, rfl⟩
 have HY7 := HQb2.out
 obtain ⟨Y8, hY8⟩ : ∃ Y8, w3.setCell ⟨(w.heap.size + 1 + 1), 7, none⟩ (.slice ac v.c.length cc) = Y8 := ⟨_, rfl⟩
 have HY8 : Bk Y8 (w.heap.size + 1 + 1) 60 #[.int .i64 v.m.n, .int .i64 v.m.s, .slice ai v.m.i.length ci, .slice ah v.m.h.length ch, .slice ae v.m.e.length ce, .int .i64 v.m.z, .slice ak v.k.length ck, .slice ac v.c.length cc] := hY8 ▸ HY7.put 7 _
 clear HY7
 have hYV : Y8 = V3 := by rw [← hV3, hY8]
 have HQ3 : Hid (Bk V3 (w.heap.size + 1 + 1) 60 #[.int .i64 v.m.n, .int .i64 v.m.s, .slice ai v.m.i.length ci, .slice ah v.m.h.length ch, .slice ae v.m.e.length ce, .int .i64 v.m.z, .slice ak v.k.length ck, .slice ac v.c.length cc]) := hYV ▸ HY8
 clear HY8 hYV hY8
 have HP3 : Hid (Bk V3 w.heap.size 55 #[.int .i64 v.m.n, .int .i64 v.m.s, vi, vh, vs, .int .i64 v.m.z, uk, uc]) := by rw [← hV3]; exact (HPb2.out.other 7 _ (by omega))
 have HR3 : Hid (Bk V3 (w.heap.size + 1) 60 #[.int .i64 0, .int .i64 0, .slice none 0 0, .slice none 0 0, .slice none 0 0, .int .i64 0, .slice none 0 0, .slice none 0 0]) := by rw [← hV3]; exact (HRb2.out.other 7 _ (by omega))
 have HT3 : Hid (Turns (fun j => j = (w.heap.size + 1 + 1)) w3 V3) := by rw [← hV3]; exact put1_turns _ _ 7 _
 have hy3 : w3.heap.size ≤ V3.heap.size := HT3.out.size
 have HX3 : Hid (Below w.heap.size w V3) := HXb2.out.trans (HT3.out.to_below (fun j e => by omega) (by omega))
 have HM1b : Hid (∀ X, Turns (fun j => j = w.heap.size + 1 ∨ j = w.heap.size + 1 + 1) V3 X → IsM X (.agg #[.int .i64 v.m.n, .int .i64 v.m.s, .slice ai v.m.i.length ci, .slice ah v.m.h.length ch, .slice ae v.m.e.length ce, .int .i64 v.m.z]) v.m) := fun X hX => HM1.out X ((HT3.out.mono (fun j e => .inr e)).trans hX)
 clear HM1
 have HM1 := HM1b
 clear HM1b
 have HK1b : Hid (∀ X, Turns (fun j => j = w.heap.size + 1 ∨ j = w.heap.size + 1 + 1) V3 X → IsKs X (.slice ak v.k.length ck) v.k) := fun X hX => HK1.out X ((HT3.out.mono (fun j e => .inr e)).trans hX)
 clear HK1
 have HK1 := HK1b
 clear HK1b
 have HC1b : Hid (∀ X, Turns (fun j => j = w.heap.size + 1 ∨ j = w.heap.size + 1 + 1) V3 X → IsD X (.slice ac v.c.length cc) (vecsD v.c)) := fun X hX => HC1.out X ((HT3.out.mono (fun j e => .inr e)).trans hX)
 clear HC1
 have HC1 := HC1b
 clear HC1b
 clear HP2 HR2 HQ2 HX2 HPb2 HRb2 HQb2 HXb2
 have oo0 := HQ3.out.cell (i := 0) rfl
 have rr0 := HR3.out.cell (i := 0) rfl
 have oo1 := HQ3.out.cell (i := 1) rfl
 have rr1 := HR3.out.cell (i := 1) rfl
 have oo2 := HQ3.out.cell (i := 2) rfl
 have rr2 := HR3.out.cell (i := 2) rfl
 have oo3 := HQ3.out.cell (i := 3) rfl
 have rr3 := HR3.out.cell (i := 3) rfl
 have oo4 := HQ3.out.cell (i := 4) rfl
 have rr4 := HR3.out.cell (i := 4) rfl
 have oo5 := HQ3.out.cell (i := 5) rfl
 have rr5 := HR3.out.cell (i := 5) rfl
 have oo6 := HQ3.out.cell (i := 6) rfl
 have rr6 := HR3.out.cell (i := 6) rfl
 have oo7 := HQ3.out.cell (i := 7) rfl
 have rr7 := HR3.out.cell (i := 7) rfl
 have rf := HR3.out.free
 go_wp2
 clear rf oo0 rr0 oo1 rr1 oo2 rr2 oo3 rr3 oo4 rr4 oo5 rr5 oo6 rr6 oo7 rr7 qq7 qf2 hV3
 have HY0 := HR3.out
 have HU0 : Turns (fun j => j = (w.heap.size + 1)) V3 V3 := Turns.refl _ _
 obtain ⟨Y1, hY1⟩ : ∃ Y1, V3.setCell ⟨(w.heap.size + 1), 0, none⟩ (.int .i64 v.m.n) = Y1 := ⟨_, rfl⟩
 have HY1 : Bk Y1 (w.heap.size + 1) 60 #[.int .i64 v.m.n, .int .i64 0, .slice none 0 0, .slice none 0 0, .slice none 0 0, .int .i64 0, .slice none 0 0, .slice none 0 0] := hY1 ▸ HY0.put 0 _
 have HU1 : Turns (fun j => j = (w.heap.size + 1)) V3 Y1 := HU0.trans (hY1 ▸ put1_turns _ _ 0 _)
 clear HY0 HU0
 obtain ⟨Y2, hY2⟩ : ∃ Y2, Y1.setCell ⟨(w.heap.size + 1), 1, none⟩ (.int .i64 v.m.s) = Y2 := ⟨_, rfl⟩
 have HY2 : Bk Y2 (w.heap.size + 1) 60 #[.int .i64 v.m.n, .int .i64 v.m.s, .slice none 0 0, .slice none 0 0, .slice none 0 0, .int .i64 0, .slice none 0 0, .slice none 0 0] := hY2 ▸ HY1.put 1 _
 have HU2 : Turns (fun j => j = (w.heap.size + 1)) V3 Y2 := HU1.trans (hY2 ▸ put1_turns _ _ 1 _)
 clear HY1 HU1
 obtain ⟨Y3, hY3⟩ : ∃ Y3, Y2.setCell ⟨(w.heap.size + 1), 2, none⟩ (.slice ai v.m.i.length ci) = Y3 := ⟨_, rfl⟩
 have HY3 : Bk Y3 (w.heap.size + 1) 60 #[.int .i64 v.m.n, .int .i64 v.m.s, .slice ai v.m.i.length ci, .slice none 0 0, .slice none 0 0, .int .i64 0, .slice none 0 0, .slice none 0 0] := hY3 ▸ HY2.put 2 _
 have HU3 : Turns (fun j => j = (w.heap.size + 1)) V3 Y3 := HU2.trans (hY3 ▸ put1_turns _ _ 2 _)
 clear HY2 HU2
 obtain ⟨Y4, hY4⟩ : ∃ Y4, Y3.setCell ⟨(w.heap.size + 1), 3, none⟩ (.slice ah v.m.h.length ch) = Y4 := ⟨_, rfl⟩
 have HY4 : Bk Y4 (w.heap.size + 1) 60 #[.int .i64 v.m.n, .int .i64 v.m.s, .slice ai v.m.i.length ci, .slice ah v.m.h.length ch, .slice none 0 0, .int .i64 0, .slice none 0 0, .slice none 0 0] := hY4 ▸ HY3.put 3 _
 have HU4 : Turns (fun j => j = (w.heap.size + 1)) V3 Y4 := HU3.trans (hY4 ▸ put1_turns _ _ 3 _)
 clear HY3 HU3
 obtain ⟨Y5, hY5⟩ : ∃ Y5, Y4.setCell ⟨(w.heap.size + 1), 4, none⟩ (.slice ae v.m.e.length ce) = Y5 := ⟨_, rfl⟩
 have HY5 : Bk Y5 (w.heap.size + 1) 60 #[.int .i64 v.m.n, .int .i64 v.m.s, .slice ai v.m.i.length ci, .slice ah v.m.h.length ch, .slice ae v.m.e.length ce, .int .i64 0, .slice none 0 0, .slice none 0 0] := hY5 ▸ HY4.put 4 _
 have HU5 : Turns (fun j => j = (w.heap.size + 1)) V3 Y5 := HU4.trans (hY5 ▸ put1_turns _ _ 4 _)
 clear HY4 HU4
 obtain ⟨Y6, hY6⟩ : ∃ Y6, Y5.setCell ⟨(w.heap.size + 1), 5, none⟩ (.int .i64 v.m.z) = Y6 := ⟨_, rfl⟩
 have HY6 : Bk Y6 (w.heap.size + 1) 60 #[.int .i64 v.m.n, .int .i64 v.m.s, .slice ai v.m.i.length ci, .slice ah v.m.h.length ch, .slice ae v.m.e.length ce, .int .i64 v.m.z, .slice none 0 0, .slice none 0 0] := hY6 ▸ HY5.put 5 _
 have HU6 : Turns (fun j => j = (w.heap.size + 1)) V3 Y6 := HU5.trans (hY6 ▸ put1_turns _ _ 5 _)
 clear HY5 HU5
 obtain ⟨Y7, hY7⟩ : ∃ Y7, Y6.setCell ⟨(w.heap.size + 1), 6, none⟩ (.slice ak v.k.length ck) = Y7 := ⟨_, rfl⟩
 have HY7 : Bk Y7 (w.heap.size + 1) 60 #[.int .i64 v.m.n, .int .i64 v.m.s, .slice ai v.m.i.length ci, .slice ah v.m.h.length ch, .slice ae v.m.e.length ce, .int .i64 v.m.z, .slice ak v.k.length ck, .slice none 0 0] := hY7 ▸ HY6.put 6 _
 have HU7 : Turns (fun j => j = (w.heap.size + 1)) V3 Y7 := HU6.trans (hY7 ▸ put1_turns _ _ 6 _)
 clear HY6 HU6
 obtain ⟨Y8, hY8⟩ : ∃ Y8, Y7.setCell ⟨(w.heap.size + 1), 7, none⟩ (.slice ac v.c.length cc) = Y8 := ⟨_, rfl⟩
 have HY8 : Bk Y8 (w.heap.size + 1) 60 #[.int .i64 v.m.n, .int .i64 v.m.s, .slice ai v.m.i.length ci, .slice ah v.m.h.length ch, .slice ae v.m.e.length ce, .int .i64 v.m.z, .slice ak v.k.length ck, .slice ac v.c.length cc] := hY8 ▸ HY7.put 7 _
 have HU8 : Turns (fun j => j = (w.heap.size + 1)) V3 Y8 := HU7.trans (hY8 ▸ put1_turns _ _ 7 _)
 clear HY7 HU7
 rw [hY1, hY2, hY3, hY4, hY5, hY6, hY7, hY8]
 have hR := HY8
 have hT := HU8
 have t0 := hR.cell (i := 0) rfl
 have t1 := hR.cell (i := 1) rfl
 have t2 := hR.cell (i := 2) rfl
 have t3 := hR.cell (i := 3) rfl
 have t4 := hR.cell (i := 4) rfl
 have t5 := hR.cell (i := 5) rfl
 have t6 := hR.cell (i := 6) rfl
 have t7 := hR.cell (i := 7) rfl
 have hT2 := hT.mono (fun j (e : j = (w.heap.size + 1)) => (.inl e : j = w.heap.size + 1 ∨ j = w.heap.size + 1 + 1))
 refine bodyPost_ret (v := .agg #[.int .i64 v.m.n, .int .i64 v.m.s, .slice ai v.m.i.length ci, .slice ah v.m.h.length ch, .slice ae v.m.e.length ce, .int .i64 v.m.z, .slice ak v.k.length ck, .slice ac v.c.length cc]) (by simp [results, Tryz.results27, go_sem, t0, t1, t2, t3, t4, t5, t6, t7]) rfl ⟨_, rfl, HX3.out.trans (hT.to_below (fun j e => by omega) (by omega)), _, _, _, _, _, rfl, HM1.out _ hT2, HK1.out _ hT2, HC1.out _ hT2⟩
end Go.Proofs.YtnlhcdchmgfipaaGreat

/- The walk of FnExactWorldOk. -/
namespace Go.Proofs.YtnlhcdchmgfipaaGreat.LawExactWorldOk
open Go.ChangeShapes Go.WideShapes Go.ChangeAt Go.RowKit Go.Proofs.YtnlhcdchmgfipaaGreat
theorem hidLawWorldOkW {p : Prop} (h : p) : Hid p := h
set_option maxRecDepth 100000 in
set_option maxHeartbeats 16000000 in
theorem walk (x : Value) (v : Wd) (w : World) (hx : IsW w x v) :
  Calls Tryz.prog 7 #[x] w fun e w' => e = .returned (.bool true) ∧ Below w.heap.size w w' := by
 have HX : Hid (IsW w x v) := hx
 obtain ⟨vi, vh, vs, uk, uc, rfl, _⟩ := hx
 obtain ⟨W0, hW0⟩ : ∃ W0, w.alloc (.cells #[.int .i64 v.m.n, .int .i64 v.m.s, vi, vh, vs, .int .i64 v.m.z, uk, uc] 55) = W0 := ⟨_, rfl⟩
 have HB_W0 : Hid (Below w.heap.size w W0) := by rw [← hW0]; exact (Below.refl _ w).alloc (Nat.le_refl _) _
 have HP_W0 : Hid (Bk W0 w.heap.size 55 #[.int .i64 v.m.n, .int .i64 v.m.s, vi, vh, vs, .int .i64 v.m.z, uk, uc]) := by rw [← hW0]; exact Bk.new w _ _
 have p0 := HP_W0.out.cell (i := 0) rfl
 have p1 := HP_W0.out.cell (i := 1) rfl
 have p2 := HP_W0.out.cell (i := 2) rfl
 have p3 := HP_W0.out.cell (i := 3) rfl
 have p4 := HP_W0.out.cell (i := 4) rfl
 have p5 := HP_W0.out.cell (i := 5) rfl
 have p6 := HP_W0.out.cell (i := 6) rfl
 have p7 := HP_W0.out.cell (i := 7) rfl
 have hP0 : w.heap.size < W0.heap.size := HP_W0.out.lt
 go_enter Tryz.func7, Tryz.ntmps7
 go_wp2_with fail
 clear hW0 p0 p1 p2 p3 p4 p5 p6 p7
 refine (szWorld_any _ v _ (HX.out.under HB_W0.out)).mono ?_
 rintro e w1 ⟨⟨r, rfl, hr⟩, hb⟩
 have z_w1 : W0.heap.size ≤ w1.heap.size := hb.size
 have HB_w1 := hidLawWorldOkW (HB_W0.out.trans (hb.mono HB_W0.out.size))
 have HP_w1 := hidLawWorldOkW (HP_W0.out.below hb)
 clear HB_W0 HP_W0 hb
 rcases hr with rfl | ⟨hr0, hr9⟩
 case inl =>
  go_wp2
  go_ret
  exact ⟨rfl, HB_w1.out⟩
 have hr1 : ¬ (r < 0) := by omega
 have HSM : Hid (SmallWd v) := hr9
 clear hr0 hr9
 have p0 := HP_w1.out.cell (i := 0) rfl
 have p1 := HP_w1.out.cell (i := 1) rfl
 have p2 := HP_w1.out.cell (i := 2) rfl
 have p3 := HP_w1.out.cell (i := 3) rfl
 have p4 := HP_w1.out.cell (i := 4) rfl
 have p5 := HP_w1.out.cell (i := 5) rfl
 have p6 := HP_w1.out.cell (i := 6) rfl
 have p7 := HP_w1.out.cell (i := 7) rfl
 go_wp2_with fail
 clear p0 p1 p2 p3 p4 p5 p6 p7
 refine (toWorld_any _ v _ HSM.out (HX.out.under HB_w1.out)).mono ?_
 rintro e w2 ⟨y0, rfl, hb, hr⟩
 have z_w2 : w1.heap.size ≤ w2.heap.size := hb.size
 have HB_w2 := hidLawWorldOkW (HB_w1.out.trans (hb.mono HB_w1.out.size))
 have HP_w2 := hidLawWorldOkW (HP_w1.out.below hb)
 clear HB_w1 HP_w1
 have HT_w2 : Hid (IsW w2 y0 v) := hr
 clear hb hr
 go_wp2_with fail
 refine (sWorldOk _ v _ HSM.out HT_w2.out).mono ?_
 rintro e w3 ⟨rfl, hb⟩
 have z_w3 : w2.heap.size ≤ w3.heap.size := hb.size
 have HB_w3 := hidLawWorldOkW (HB_w2.out.trans (hb.mono HB_w2.out.size))
 have HP_w3 := hidLawWorldOkW (HP_w2.out.below hb)
 clear HB_w2 HP_w2
 clear hb HT_w2
 have p0 := HP_w3.out.cell (i := 0) rfl
 have p1 := HP_w3.out.cell (i := 1) rfl
 have p2 := HP_w3.out.cell (i := 2) rfl
 have p3 := HP_w3.out.cell (i := 3) rfl
 have p4 := HP_w3.out.cell (i := 4) rfl
 have p5 := HP_w3.out.cell (i := 5) rfl
 have p6 := HP_w3.out.cell (i := 6) rfl
 have p7 := HP_w3.out.cell (i := 7) rfl
 go_wp2_with fail
 clear p0 p1 p2 p3 p4 p5 p6 p7
 refine (toWorld_any _ v _ HSM.out (HX.out.under HB_w3.out)).mono ?_
 rintro e w4 ⟨y1, rfl, hb, hr⟩
 have z_w4 : w3.heap.size ≤ w4.heap.size := hb.size
 have HB_w4 := hidLawWorldOkW (HB_w3.out.trans (hb.mono HB_w3.out.size))
 have HP_w4 := hidLawWorldOkW (HP_w3.out.below hb)
 clear HB_w3 HP_w3
 have HR_w4 : Hid (IsW w4 y1 v) := hr
 clear hb hr
 obtain ⟨ai, ci, ah, ch, ae, ce, ak, ck, ac, cc, rfl, _⟩ := HR_w4.out.form
 obtain ⟨Vw4, hVw4⟩ : ∃ V, w4.alloc (.cells #[.int .i64 v.m.n, .int .i64 v.m.s, .slice ai v.m.i.length ci, .slice ah v.m.h.length ch, .slice ae v.m.e.length ce, .int .i64 v.m.z, .slice ak v.k.length ck, .slice ac v.c.length cc] 60) = V := ⟨_, rfl⟩
 have BHX0 : Bk Vw4 w4.heap.size 60 #[.int .i64 v.m.n, .int .i64 v.m.s, .slice ai v.m.i.length ci, .slice ah v.m.h.length ch, .slice ae v.m.e.length ce, .int .i64 v.m.z, .slice ak v.k.length ck, .slice ac v.c.length cc] := by rw [← hVw4]; exact Bk.new _ _ _
 have hb : Below w4.heap.size w4 Vw4 := by rw [← hVw4]; exact (Below.refl _ _).alloc (Nat.le_refl _) _
 have y_Vw4 : w4.heap.size < Vw4.heap.size := BHX0.lt
 have z_Vw4 : w4.heap.size ≤ Vw4.heap.size := hb.size
 have HB_Vw4 := hidLawWorldOkW (HB_w4.out.trans (hb.mono HB_w4.out.size))
 have HP_Vw4 := hidLawWorldOkW (HP_w4.out.below hb)
 have HR_Vw4 := hidLawWorldOkW (HR_w4.out.under hb)
 clear HB_w4 HP_w4 HR_w4
 have HX0_Vw4 := hidLawWorldOkW BHX0
 clear hb BHX0
 have r0 := HX0_Vw4.out.cell (i := 0) rfl
 have r1 := HX0_Vw4.out.cell (i := 1) rfl
 have r2 := HX0_Vw4.out.cell (i := 2) rfl
 have r3 := HX0_Vw4.out.cell (i := 3) rfl
 have r4 := HX0_Vw4.out.cell (i := 4) rfl
 have r5 := HX0_Vw4.out.cell (i := 5) rfl
 have r6 := HX0_Vw4.out.cell (i := 6) rfl
 have r7 := HX0_Vw4.out.cell (i := 7) rfl
 go_wp2_with fail
 clear hVw4 r0 r1 r2 r3 r4 r5 r6 r7
 refine (iWorldOk _ v _ HSM.out HR_Vw4.out).mono ?_
 rintro e w5 ⟨rfl, hb⟩
 have z_w5 : Vw4.heap.size ≤ w5.heap.size := hb.size
 have HB_w5 := hidLawWorldOkW (HB_Vw4.out.trans (hb.mono HB_Vw4.out.size))
 have HP_w5 := hidLawWorldOkW (HP_Vw4.out.below hb)
 have HR_w5 := hidLawWorldOkW (HR_Vw4.out.under hb)
 have HX0_w5 := hidLawWorldOkW (HX0_Vw4.out.below hb)
 clear HB_Vw4 HP_Vw4 HR_Vw4 HX0_Vw4
 clear hb
 have p0 := HP_w5.out.cell (i := 0) rfl
 have p1 := HP_w5.out.cell (i := 1) rfl
 have p2 := HP_w5.out.cell (i := 2) rfl
 have p3 := HP_w5.out.cell (i := 3) rfl
 have p4 := HP_w5.out.cell (i := 4) rfl
 have p5 := HP_w5.out.cell (i := 5) rfl
 have p6 := HP_w5.out.cell (i := 6) rfl
 have p7 := HP_w5.out.cell (i := 7) rfl
 have r0 := HX0_w5.out.cell (i := 0) rfl
 have r1 := HX0_w5.out.cell (i := 1) rfl
 have r2 := HX0_w5.out.cell (i := 2) rfl
 have r3 := HX0_w5.out.cell (i := 3) rfl
 have r4 := HX0_w5.out.cell (i := 4) rfl
 have r5 := HX0_w5.out.cell (i := 5) rfl
 have r6 := HX0_w5.out.cell (i := 6) rfl
 have r7 := HX0_w5.out.cell (i := 7) rfl
 go_wp2_with fail
 have hzz : w.heap.size < w5.heap.size := by omega
 have hzy : w4.heap.size < w5.heap.size := by omega
 go_region_held3 (fun W => W.cell? ⟨w.heap.size, 0, none⟩ = some (.int .i64 v.m.n) ∧ W.cell? ⟨w.heap.size, 1, none⟩ = some (.int .i64 v.m.s) ∧ W.cell? ⟨w.heap.size, 2, none⟩ = some (vi) ∧ W.cell? ⟨w.heap.size, 3, none⟩ = some (vh) ∧ W.cell? ⟨w.heap.size, 4, none⟩ = some (vs) ∧ W.cell? ⟨w.heap.size, 5, none⟩ = some (.int .i64 v.m.z) ∧ W.cell? ⟨w.heap.size, 6, none⟩ = some (uk) ∧ W.cell? ⟨w.heap.size, 7, none⟩ = some (uc) ∧ W.cell? ⟨w4.heap.size, 0, none⟩ = some (.int .i64 v.m.n) ∧ W.cell? ⟨w4.heap.size, 1, none⟩ = some (.int .i64 v.m.s) ∧ W.cell? ⟨w4.heap.size, 2, none⟩ = some (.slice ai v.m.i.length ci) ∧ W.cell? ⟨w4.heap.size, 3, none⟩ = some (.slice ah v.m.h.length ch) ∧ W.cell? ⟨w4.heap.size, 4, none⟩ = some (.slice ae v.m.e.length ce) ∧ W.cell? ⟨w4.heap.size, 5, none⟩ = some (.int .i64 v.m.z) ∧ W.cell? ⟨w4.heap.size, 6, none⟩ = some (.slice ak v.k.length ck) ∧ W.cell? ⟨w4.heap.size, 7, none⟩ = some (.slice ac v.c.length cc)) ((repeat' apply And.intro) <;> first | (go_keep; done) | (rw [hcA _ _ (by first | omega | (simp; omega))]; simp [*]; done))
  (first | (go_at_call 27; refine (toWorld_any _ v _ HSM.out (HX.out.under HB_w5.out.drew)).mono ?_; rintro e w7 ⟨y2, rfl, hbw7, hr2⟩; obtain ⟨hcA, hfA⟩ := bcell hbw7; have hzw7 : w5.heap.size ≤ w7.heap.size := hbw7.size) | (go_at_call 29; refine (eqWorld_same _ _ v _ HSM.out (HR_w5.out.under ((Below.refl _ w5).drew.trans hbw7)) hr2).mono ?_; rintro e w8 ⟨rfl, hbw8⟩; obtain ⟨hcA, hfA⟩ := bcell hbw8; have hzw8 : w7.heap.size ≤ w8.heap.size := hbw8.size))
 clear hcA hfA
 have hbc : Below w5.heap.size w5 w8 := ((Below.refl w5.heap.size w5).drew.trans (hbw7.mono (Nat.le_refl _))).trans (hbw8.mono (by omega))
 clear p0 p1 p2 p3 p4 p5 p6 p7 r0 r1 r2 r3 r4 r5 r6 r7
 have HB_w8 := hidLawWorldOkW (HB_w5.out.trans (hbc.mono HB_w5.out.size))
 clear hbc hr2 hbw7 hzw7 hbw8 hzw8 hzz hzy
 go_wp2
 go_ret
 exact ⟨rfl, HB_w8.out⟩
end Go.Proofs.YtnlhcdchmgfipaaGreat.LawExactWorldOk

/- How a list of events that came in is read. -/
namespace Go.Proofs.YtnlhcdchmgfipaaGreat
open Go.ChangeShapes Go.WideShapes Go.ChangeAt Go.RowKit
theorem evs_list {w : World} {b off : Nat} : ∀ n, (∀ i, i < n → ∃ e : Ev, Ev.In w b (off + i * 7) e) → ∃ l : List Ev, l.length = n ∧ ∀ i, i < n → Ev.In w b (off + i * 7) (evAt l i)
 | 0, _ => ⟨[], rfl, fun i hi => by omega⟩
 | n + 1, h => by
  obtain ⟨l, hl, hi⟩ := evs_list n (fun i hi => h i (by omega))
  obtain ⟨e, he⟩ := h n (by omega)
  refine ⟨l ++ [e], by simp [hl], fun i hi' => ?_⟩
  by_cases hin : i < n
  ·have : evAt (l ++ [e]) i = evAt l i := by unfold evAt; simp [List.getElem?_append_left (by omega : i < l.length)]
   rw [this]; exact hi i hin
  ·have : evAt (l ++ [e]) i = e := by unfold evAt; simp [show i = l.length by omega]
   rw [this, show i = n by omega]; exact he
theorem add_plain (b off n : Nat) : (⟨b, off, none⟩ : Addr).add n = ⟨b, off + n, none⟩ := by
 unfold Addr.add
 split <;> simp_all
end Go.Proofs.YtnlhcdchmgfipaaGreat

/- How a list of numbers that came in is read. -/
namespace Go.Proofs.YtnlhcdchmgfipaaGreat
open Go.ChangeShapes Go.WideShapes Go.ChangeAt Go.RowKit
theorem ints_list {w : World} {b off : Nat} : ∀ n, (∀ i, i < n → ∃ z : Int, w.cell? ⟨b, off + i, none⟩ = some (.int .i64 z)) → ∃ l : List Int, l.length = n ∧ ∀ i, i < n → w.cell? ⟨b, off + i, none⟩ = some (.int .i64 (intAt l i))
 | 0, _ => ⟨[], rfl, fun i hi => by omega⟩
 | n + 1, h => by
  obtain ⟨l, hl, hi⟩ := ints_list n (fun i hi => h i (by omega))
  obtain ⟨e, he⟩ := h n (by omega)
  refine ⟨l ++ [e], by simp [hl], fun i hi' => ?_⟩
  by_cases hin : i < n
  ·have : intAt (l ++ [e]) i = intAt l i := by unfold intAt; simp [List.getElem?_append_left (by omega : i < l.length)]
   rw [this]; exact hi i hin
  ·have : intAt (l ++ [e]) i = e := by unfold intAt; simp [show i = l.length by omega]
   rw [this, show i = n by omega]; exact he
end Go.Proofs.YtnlhcdchmgfipaaGreat

/- How a model that came in is read. -/
namespace Go.Proofs.YtnlhcdchmgfipaaGreat
open Go.ChangeShapes Go.WideShapes Go.ChangeAt Go.RowKit
theorem cellsOp : Tryz.prog.cellsOf 219 = 4 := by kernel_rfl
theorem cellsRow : Tryz.prog.cellsOf 186 = 1 := by kernel_rfl
theorem cellsRows : Tryz.prog.cellsOf 23 = 1 := by kernel_rfl
theorem cellsInts : Tryz.prog.cellsOf 22 = 1 := by kernel_rfl
theorem cellsEvs : Tryz.prog.cellsOf 24 = 1 := by kernel_rfl
theorem cellsM : Tryz.prog.cellsOf 26 = 6 := by kernel_rfl
theorem list4 {α : Type} {l : List α} (h : l.length = 4) : ∃ a b c d, l = [a, b, c, d] := by
 match l, h with
 | [a, b, c, d], _ => exact ⟨a, b, c, d, rfl⟩
theorem list6 {α : Type} {l : List α} (h : l.length = 6) : ∃ a b c d e f, l = [a, b, c, d, e, f] := by
 match l, h with
 | [a, b, c, d, e, f], _ => exact ⟨a, b, c, d, e, f, rfl⟩
set_option maxRecDepth 100000 in
theorem trod_op {H : Type} {enc : TypeId × Value → H} {w : World} {base : Nat} {spare : Nat → Bool} {held : Bool} {fuel : Nat} {cs : List Value} {x : DataW H × List MemPlace}
  (h : DataW.trod enc Tryz.prog w base spare held fuel 219 cs = some x) : ∃ c a b k : Int, cs = [.int .i64 c, .int .i64 a, .int .i64 b, .int .i64 k] ∧ wfI c ∧ wfI a ∧ wfI b ∧ wfI k := by
 obtain ⟨xs, n, _, rfl, hl, hlen, hf⟩ := DataW.trod_struct Tryz.underlying219 h
 rw [cellsOp] at hl
 obtain ⟨c0, c1, c2, c3, rfl⟩ := list4 hl
 have hx : xs.length = 4 := by simpa using hlen
 obtain ⟨y0, y1, y2, y3, rfl⟩ := list4 hx
 have h0 := hf 0 _ rfl
 have h1 := hf 1 _ rfl
 have h2 := hf 2 _ rfl
 have h3 := hf 3 _ rfl
 obtain ⟨a0, e0, _, w0⟩ := DataW.trod_int Tryz.underlying3 h0
 obtain ⟨a1, e1, _, w1⟩ := DataW.trod_int Tryz.underlying3 h1
 obtain ⟨a2, e2, _, w2⟩ := DataW.trod_int Tryz.underlying3 h2
 obtain ⟨a3, e3, _, w3⟩ := DataW.trod_int Tryz.underlying3 h3
 simp [cells3] at e0 e1 e2 e3
 subst e0 e1 e2 e3
 exact ⟨a0, a1, a2, a3, rfl, w0, w1, w2, w3⟩
set_option maxRecDepth 100000 in
theorem trod_ints {H : Type} {enc : TypeId × Value → H} {w : World} {spare : Nat → Bool} {held : Bool} {fuel : Nat} {cs : List Value} {x : DataW H × List MemPlace}
  (hf : DataW.trod enc Tryz.prog w 0 spare held fuel 22 cs = some x) : ∃ v l, cs = [v] ∧ IsI w v l := by
 rcases DataW.trod_slice Tryz.underlying22 hf with ⟨rfl, _⟩ | ⟨a, len, cap, elems, rest, n, _, rfl, _, hb, hl, hm, hlen, hel, _, _⟩
 ·exact ⟨_, [], rfl, none, 0, rfl, Nat.le_refl _, by unfold maxLen; omega, .inl rfl⟩
 ·by_cases h0 : len = 0
  ·subst h0
   exact ⟨_, [], rfl, _, _, rfl, hl, hm, .inl rfl⟩
  ·obtain ⟨b, off, spot⟩ := a
   have hs : spot = none := by
    have h1 := hel 0 (by omega)
    rw [cells3, List.getElem?_eq_getElem (by omega)] at h1
    obtain ⟨cs, hc, ht⟩ := Option.bind_eq_some_iff.1 h1
    obtain ⟨t, rfl, _⟩ := DataW.trod_int Tryz.underlying3 ht
    have c0 := (World.cells?_some hc).2.2 0 (by omega)
    simpa [Addr.add] using World.cell?_spot c0
   subst hs
   have each : ∀ i, i < len → ∃ z : Int, w.cell? ⟨b, off + i, none⟩ = some (.int .i64 z) ∧ b < w.heap.size := by
    intro i hi
    have h1 := hel i hi
    rw [cells3, List.getElem?_eq_getElem (by omega), add_plain] at h1
    obtain ⟨cs, hc, ht⟩ := Option.bind_eq_some_iff.1 h1
    obtain ⟨t, rfl, _, hw⟩ := DataW.trod_int Tryz.underlying3 ht
    have hblk : b < w.heap.size := World.cells?_block hc (by omega)
    obtain ⟨_, _, hcell⟩ := World.cells?_some hc
    have h2 := hcell 0 (by omega)
    simp only [add_plain] at h2
    exact ⟨t, by simpa using h2, hblk⟩
   obtain ⟨_, _, hblk⟩ := each 0 (by omega)
   obtain ⟨l, rfl, hi⟩ := ints_list (w := w) (b := b) (off := off) len (fun i hi => by
    obtain ⟨e, he, _⟩ := each i hi
    exact ⟨e, he⟩)
   exact ⟨_, l, rfl, _, _, rfl, hl, hm, .inr ⟨b, off, rfl, hblk, hi⟩⟩
set_option maxRecDepth 100000 in
theorem trod_evs {H : Type} {enc : TypeId × Value → H} {w : World} {spare : Nat → Bool} {held : Bool} {fuel : Nat} {cs : List Value} {x : DataW H × List MemPlace}
  (hf : DataW.trod enc Tryz.prog w 0 spare held fuel 24 cs = some x) : ∃ v l, cs = [v] ∧ IsEvs w v l := by
 rcases DataW.trod_slice Tryz.underlying24 hf with ⟨rfl, _⟩ | ⟨a, len, cap, elems, rest, n, _, rfl, _, hb, hl, hm, hlen, hel, _, _⟩
 ·exact ⟨_, [], rfl, none, 0, rfl, Nat.le_refl _, by unfold maxLen; omega, .inl rfl⟩
 ·by_cases h0 : len = 0
  ·subst h0
   exact ⟨_, [], rfl, _, _, rfl, hl, hm, .inl rfl⟩
  ·obtain ⟨b, off, spot⟩ := a
   have hs : spot = none := by
    have h1 := hel 0 (by omega)
    rw [cells23, List.getElem?_eq_getElem (by omega)] at h1
    obtain ⟨cs, hc, ht⟩ := Option.bind_eq_some_iff.1 h1
    obtain ⟨t, s, q, d, k, v, g, rfl, _⟩ := trod_ev ht
    have c0 := (World.cells?_some hc).2.2 0 (by omega)
    simpa [Addr.add] using World.cell?_spot c0
   subst hs
   have each : ∀ i, i < len → ∃ e : Ev, Ev.In w b (off + i * 7) e ∧ b < w.heap.size := by
    intro i hi
    have h1 := hel i hi
    rw [cells23, List.getElem?_eq_getElem (by omega), add_plain] at h1
    obtain ⟨cs, hc, ht⟩ := Option.bind_eq_some_iff.1 h1
    obtain ⟨t, s, q, d, k, v, g, rfl, _⟩ := trod_ev ht
    have hblk : b < w.heap.size := World.cells?_block hc (by omega)
    obtain ⟨_, _, hcell⟩ := World.cells?_some hc
    simp only [add_plain] at hcell
    exact ⟨⟨t, s, q, d, k, v, g⟩, ⟨hcell 0 (by omega), hcell 1 (by omega), hcell 2 (by omega), hcell 3 (by omega), hcell 4 (by omega), hcell 5 (by omega), hcell 6 (by omega)⟩, hblk⟩
   obtain ⟨_, _, hblk⟩ := each 0 (by omega)
   obtain ⟨l, rfl, hi⟩ := evs_list (w := w) (b := b) (off := off) len (fun i hi => by
    obtain ⟨e, he, _⟩ := each i hi
    exact ⟨e, he⟩)
   exact ⟨_, l, rfl, _, _, rfl, hl, hm, .inr ⟨b, off, rfl, hblk, hi⟩⟩
theorem os_list {w : World} {b off : Nat} : ∀ n, (∀ i, i < n → ∃ e : O, OAt w b (off + i * 4) e) → ∃ l : List O, l.length = n ∧ ∀ i, i < n → OAt w b (off + i * 4) (oAt l i)
 | 0, _ => ⟨[], rfl, fun i hi => by omega⟩
 | n + 1, h => by
  obtain ⟨l, hl, hi⟩ := os_list n (fun i hi => h i (by omega))
  obtain ⟨e, he⟩ := h n (by omega)
  refine ⟨l ++ [e], by simp [hl], fun i hi' => ?_⟩
  by_cases hin : i < n
  ·have : oAt (l ++ [e]) i = oAt l i := by unfold oAt; simp [List.getElem?_append_left (by omega : i < l.length)]
   rw [this]; exact hi i hin
  ·have : oAt (l ++ [e]) i = e := by unfold oAt; simp [show i = l.length by omega]
   rw [this, show i = n by omega]; exact he
set_option maxRecDepth 100000 in
theorem trod_ops {H : Type} {enc : TypeId × Value → H} {w : World} {spare : Nat → Bool} {held : Bool} {fuel : Nat} {cs : List Value} {x : DataW H × List MemPlace}
  (hf : DataW.trod enc Tryz.prog w 0 spare held fuel 186 cs = some x) : ∃ v l, cs = [v] ∧ IsO w v l := by
 rcases DataW.trod_slice Tryz.underlying186 hf with ⟨rfl, _⟩ | ⟨a, len, cap, elems, rest, n, _, rfl, _, hb, hl, hm, hlen, hel, _, _⟩
 ·exact ⟨_, [], rfl, none, 0, rfl, Nat.le_refl _, by unfold maxLen; omega, .inl rfl⟩
 ·by_cases h0 : len = 0
  ·subst h0
   exact ⟨_, [], rfl, _, _, rfl, hl, hm, .inl rfl⟩
  ·obtain ⟨b, off, spot⟩ := a
   have hs : spot = none := by
    have h1 := hel 0 (by omega)
    rw [cellsOp, List.getElem?_eq_getElem (by omega)] at h1
    obtain ⟨cs, hc, ht⟩ := Option.bind_eq_some_iff.1 h1
    obtain ⟨c, a, b, k, rfl, _⟩ := trod_op ht
    have c0 := (World.cells?_some hc).2.2 0 (by omega)
    simpa [Addr.add] using World.cell?_spot c0
   subst hs
   have each : ∀ i, i < len → ∃ e : O, OAt w b (off + i * 4) e ∧ b < w.heap.size := by
    intro i hi
    have h1 := hel i hi
    rw [cellsOp, List.getElem?_eq_getElem (by omega), add_plain] at h1
    obtain ⟨cs, hc, ht⟩ := Option.bind_eq_some_iff.1 h1
    obtain ⟨c, a, b', k, rfl, _⟩ := trod_op ht
    have hblk : b < w.heap.size := World.cells?_block hc (by omega)
    obtain ⟨_, _, hcell⟩ := World.cells?_some hc
    simp only [add_plain] at hcell
    exact ⟨⟨c, a, b', k⟩, ⟨hcell 0 (by omega), hcell 1 (by omega), hcell 2 (by omega), hcell 3 (by omega)⟩, hblk⟩
   obtain ⟨_, _, hblk⟩ := each 0 (by omega)
   obtain ⟨l, rfl, hi⟩ := os_list (w := w) (b := b) (off := off) len (fun i hi => by
    obtain ⟨e, he, _⟩ := each i hi
    exact ⟨e, he⟩)
   exact ⟨_, l, rfl, _, _, rfl, hl, hm, .inr ⟨b, off, rfl, hblk, hi⟩⟩
theorem hs_list {w : World} {b off : Nat} : ∀ n, (∀ i, i < n → ∃ u l, w.cell? ⟨b, off + i, none⟩ = some u ∧ IsO w u l) → ∃ l : List (List O), l.length = n ∧ ∀ i, i < n → ∃ u, w.cell? ⟨b, off + i, none⟩ = some u ∧ IsO w u (hAt l i)
 | 0, _ => ⟨[], rfl, fun i hi => by omega⟩
 | n + 1, h => by
  obtain ⟨l, hl, hi⟩ := hs_list n (fun i hi => h i (by omega))
  obtain ⟨u, r, hu, hr⟩ := h n (by omega)
  refine ⟨l ++ [r], by simp [hl], fun i hi' => ?_⟩
  by_cases hin : i < n
  ·have : hAt (l ++ [r]) i = hAt l i := by unfold hAt; simp [List.getElem?_append_left (by omega : i < l.length)]
   rw [this]; exact hi i hin
  ·have : hAt (l ++ [r]) i = r := by unfold hAt; simp [show i = l.length by omega]
   rw [this, show i = n by omega]; exact ⟨u, hu, hr⟩
set_option maxRecDepth 100000 in
theorem trod_hs {H : Type} {enc : TypeId × Value → H} {w : World} {spare : Nat → Bool} {held : Bool} {fuel : Nat} {cs : List Value} {x : DataW H × List MemPlace}
  (hf : DataW.trod enc Tryz.prog w 0 spare held fuel 23 cs = some x) : ∃ v l, cs = [v] ∧ IsH w v l := by
 rcases DataW.trod_slice Tryz.underlying23 hf with ⟨rfl, _⟩ | ⟨a, len, cap, elems, rest, n, _, rfl, _, hb, hl, hm, hlen, hel, _, _⟩
 ·exact ⟨_, [], rfl, none, 0, rfl, Nat.le_refl _, by unfold maxLen; omega, .inl rfl⟩
 ·by_cases h0 : len = 0
  ·subst h0
   exact ⟨_, [], rfl, _, _, rfl, hl, hm, .inl rfl⟩
  ·obtain ⟨b, off, spot⟩ := a
   have hs : spot = none := by
    have h1 := hel 0 (by omega)
    rw [cellsRow, List.getElem?_eq_getElem (by omega)] at h1
    obtain ⟨cs, hc, ht⟩ := Option.bind_eq_some_iff.1 h1
    obtain ⟨v, l, rfl, _⟩ := trod_ops ht
    have c0 := (World.cells?_some hc).2.2 0 (by omega)
    simpa [Addr.add] using World.cell?_spot c0
   subst hs
   have each : ∀ i, i < len → ∃ u l, (w.cell? ⟨b, off + i, none⟩ = some u ∧ IsO w u l) ∧ b < w.heap.size := by
    intro i hi
    have h1 := hel i hi
    rw [cellsRow, List.getElem?_eq_getElem (by omega), add_plain] at h1
    obtain ⟨cs, hc, ht⟩ := Option.bind_eq_some_iff.1 h1
    obtain ⟨v, l, rfl, hv⟩ := trod_ops ht
    have hblk : b < w.heap.size := World.cells?_block hc (by omega)
    obtain ⟨_, _, hcell⟩ := World.cells?_some hc
    have h2 := hcell 0 (by omega)
    simp only [add_plain] at h2
    exact ⟨v, l, ⟨by simpa using h2, hv⟩, hblk⟩
   obtain ⟨_, _, _, hblk⟩ := each 0 (by omega)
   obtain ⟨l, rfl, hi⟩ := hs_list (w := w) (b := b) (off := off) len (fun i hi => by
    obtain ⟨u, l, he, _⟩ := each i hi
    exact ⟨u, l, he⟩)
   exact ⟨_, l, rfl, _, _, rfl, hl, hm, .inr ⟨b, off, rfl, hblk, hi⟩⟩
end Go.Proofs.YtnlhcdchmgfipaaGreat

/- How a state that came in is read. -/
namespace Go.Proofs.YtnlhcdchmgfipaaGreat
open Go.ChangeShapes Go.WideShapes Go.ChangeAt Go.RowKit
theorem cellsS : Tryz.prog.cellsOf 132 = 3 := by kernel_rfl
theorem list3 {α : Type} {l : List α} (h : l.length = 3) : ∃ a b c, l = [a, b, c] := by
 match l, h with
 | [a, b, c], _ => exact ⟨a, b, c, rfl⟩
end Go.Proofs.YtnlhcdchmgfipaaGreat

/- How a part that came in is read. -/
namespace Go.Proofs.YtnlhcdchmgfipaaGreat
open Go.ChangeShapes Go.WideShapes Go.ChangeAt Go.RowKit
theorem cellsEm : Tryz.prog.cellsOf 156 = 3 := by kernel_rfl
theorem cellsEms : Tryz.prog.cellsOf 29 = 1 := by kernel_rfl
theorem cellsPs : Tryz.prog.cellsOf 217 = 12 := by kernel_rfl
theorem cellsPss : Tryz.prog.cellsOf 133 = 1 := by kernel_rfl
theorem cellsPa : Tryz.prog.cellsOf 135 = 7 := by kernel_rfl
theorem list12 {α : Type} {l : List α} (h : l.length = 12) : ∃ a0 a1 a2 a3 a4 a5 a6 a7 a8 a9 a10 a11, l = [a0, a1, a2, a3, a4, a5, a6, a7, a8, a9, a10, a11] := by
 match l, h with
 | [a0, a1, a2, a3, a4, a5, a6, a7, a8, a9, a10, a11], _ => exact ⟨a0, a1, a2, a3, a4, a5, a6, a7, a8, a9, a10, a11, rfl⟩
theorem list7p {α : Type} {l : List α} (h : l.length = 7) : ∃ a0 a1 a2 a3 a4 a5 a6, l = [a0, a1, a2, a3, a4, a5, a6] := by
 match l, h with
 | [a0, a1, a2, a3, a4, a5, a6], _ => exact ⟨a0, a1, a2, a3, a4, a5, a6, rfl⟩
theorem list5 {α : Type} {l : List α} (h : l.length = 5) : ∃ a0 a1 a2 a3 a4, l = [a0, a1, a2, a3, a4] := by
 match l, h with
 | [a0, a1, a2, a3, a4], _ => exact ⟨a0, a1, a2, a3, a4, rfl⟩
theorem list4p {α : Type} {l : List α} (h : l.length = 4) : ∃ a b c d, l = [a, b, c, d] := by
 match l, h with
 | [a, b, c, d], _ => exact ⟨a, b, c, d, rfl⟩
set_option maxRecDepth 100000 in
theorem trod_emit {H : Type} {enc : TypeId × Value → H} {w : World} {base : Nat} {spare : Nat → Bool} {held : Bool} {fuel : Nat} {cs : List Value} {x : DataW H × List MemPlace}
  (h : DataW.trod enc Tryz.prog w base spare held fuel 156 cs = some x) : ∃ t l v : Int, cs = [.int .i64 t, .int .i64 l, .int .i64 v] := by
 obtain ⟨xs, n, _, rfl, hl, hlen, hf⟩ := DataW.trod_struct Tryz.underlying156 h
 rw [cellsEm] at hl
 obtain ⟨c0, c1, c2, rfl⟩ := list3 hl
 have hx : xs.length = 3 := by simpa using hlen
 obtain ⟨y0, y1, y2, rfl⟩ := list3 hx
 have h0 := hf 0 _ rfl
 have h1 := hf 1 _ rfl
 have h2 := hf 2 _ rfl
 obtain ⟨a0, e0, _, w0⟩ := DataW.trod_int Tryz.underlying3 h0
 obtain ⟨a1, e1, _, w1⟩ := DataW.trod_int Tryz.underlying3 h1
 obtain ⟨a2, e2, _, w2⟩ := DataW.trod_int Tryz.underlying3 h2
 simp [cells3] at e0 e1 e2
 subst e0 e1 e2
 exact ⟨a0, a1, a2, rfl⟩
theorem xs_list {w : World} {b off : Nat} : ∀ n, (∀ i, i < n → ∃ e : Em, XAt w b (off + i * 3) e) → ∃ l : List Em, l.length = n ∧ ∀ i, i < n → XAt w b (off + i * 3) (xAt l i)
 | 0, _ => ⟨[], rfl, fun i hi => by omega⟩
 | n + 1, h => by
  obtain ⟨l, hl, hi⟩ := xs_list n (fun i hi => h i (by omega))
  obtain ⟨e, he⟩ := h n (by omega)
  refine ⟨l ++ [e], by simp [hl], fun i hi' => ?_⟩
  by_cases hin : i < n
  ·have : xAt (l ++ [e]) i = xAt l i := by unfold xAt; simp [List.getElem?_append_left (by omega : i < l.length)]
   rw [this]; exact hi i hin
  ·have : xAt (l ++ [e]) i = e := by unfold xAt; simp [show i = l.length by omega]
   rw [this, show i = n by omega]; exact he
set_option maxRecDepth 100000 in
theorem trod_ems {H : Type} {enc : TypeId × Value → H} {w : World} {spare : Nat → Bool} {held : Bool} {fuel : Nat} {cs : List Value} {x : DataW H × List MemPlace}
  (hf : DataW.trod enc Tryz.prog w 0 spare held fuel 29 cs = some x) : ∃ v l, cs = [v] ∧ IsX w v l := by
 rcases DataW.trod_slice Tryz.underlying29 hf with ⟨rfl, _⟩ | ⟨a, len, cap, elems, rest, n, _, rfl, _, hb, hl, hm, hlen, hel, _, _⟩
 ·exact ⟨_, [], rfl, none, 0, rfl, Nat.le_refl _, by unfold maxLen; omega, .inl rfl⟩
 ·by_cases h0 : len = 0
  ·subst h0
   exact ⟨_, [], rfl, _, _, rfl, hl, hm, .inl rfl⟩
  ·obtain ⟨b, off, spot⟩ := a
   have hs : spot = none := by
    have h1 := hel 0 (by omega)
    rw [cellsEm, List.getElem?_eq_getElem (by omega)] at h1
    obtain ⟨cs, hc, ht⟩ := Option.bind_eq_some_iff.1 h1
    obtain ⟨t, l, v, rfl⟩ := trod_emit ht
    have c0 := (World.cells?_some hc).2.2 0 (by omega)
    simpa [Addr.add] using World.cell?_spot c0
   subst hs
   have each : ∀ i, i < len → ∃ e : Em, XAt w b (off + i * 3) e ∧ b < w.heap.size := by
    intro i hi
    have h1 := hel i hi
    rw [cellsEm, List.getElem?_eq_getElem (by omega), add_plain] at h1
    obtain ⟨cs, hc, ht⟩ := Option.bind_eq_some_iff.1 h1
    obtain ⟨t, l, v, rfl⟩ := trod_emit ht
    have hblk : b < w.heap.size := World.cells?_block hc (by omega)
    obtain ⟨_, _, hcell⟩ := World.cells?_some hc
    simp only [add_plain] at hcell
    exact ⟨⟨t, l, v⟩, ⟨hcell 0 (by omega), hcell 1 (by omega), hcell 2 (by omega)⟩, hblk⟩
   obtain ⟨_, _, hblk⟩ := each 0 (by omega)
   obtain ⟨l, rfl, hi⟩ := xs_list (w := w) (b := b) (off := off) len (fun i hi => by
    obtain ⟨e, he, _⟩ := each i hi
    exact ⟨e, he⟩)
   exact ⟨_, l, rfl, _, _, rfl, hl, hm, .inr ⟨b, off, rfl, hblk, hi⟩⟩
set_option maxRecDepth 100000 in
theorem trod_state {H : Type} {enc : TypeId × Value → H} {w : World} {spare : Nat → Bool} {held : Bool} {fuel : Nat} {cs : List Value} {x : DataW H × List MemPlace}
  (h : DataW.trod enc Tryz.prog w 0 spare held fuel 132 cs = some x) : ∃ (s : St) (v : Value), cs = [v, .int .i64 s.q, .int .i64 s.d] ∧ IsI w v s.r := by
 obtain ⟨xs, n, _, _, hl, hlen, hf⟩ := DataW.trod_struct Tryz.underlying132 h
 rw [cellsS] at hl
 obtain ⟨c0, c1, c2, rfl⟩ := list3 hl
 have hx : xs.length = 3 := by simpa using hlen
 obtain ⟨y0, y1, y2, rfl⟩ := list3 hx
 have h0 := hf 0 _ rfl
 have h1 := hf 1 _ rfl
 have h2 := hf 2 _ rfl
 obtain ⟨v0, l0, e0, g0⟩ := trod_ints h0
 obtain ⟨a1, e1, _, _⟩ := DataW.trod_int Tryz.underlying3 h1
 obtain ⟨a2, e2, _, _⟩ := DataW.trod_int Tryz.underlying3 h2
 simp [cells3, cellsInts] at e0 e1 e2
 subst e0 e1 e2
 exact ⟨⟨l0, a1, a2⟩, c0, rfl, g0⟩
set_option maxRecDepth 100000 in
theorem trod_past {H : Type} {enc : TypeId × Value → H} {w : World} {spare : Nat → Bool} {held : Bool} {fuel : Nat} {cs : List Value} {x : DataW H × List MemPlace}
  (h : DataW.trod enc Tryz.prog w 0 spare held fuel 217 cs = some x) : ∃ (p : Ps) (u7 u10 u11 : Value), cs = [.int .i64 p.e.t, .int .i64 p.e.s, .int .i64 p.e.q, .int .i64 p.e.d, .int .i64 p.e.k, .int .i64 p.e.v, .int .i64 p.e.g, u7, .int .i64 p.b.q, .int .i64 p.b.d, u10, u11] ∧ IsD w u7 (intsD p.b.r) ∧ IsD w u10 (evsD p.s) ∧ IsD w u11 (emsD p.x) := by
 obtain ⟨xs, n, _, _, hl, hlen, hf⟩ := DataW.trod_struct Tryz.underlying217 h
 rw [cellsPs] at hl
 obtain ⟨c0, c1, c2, c3, c4, c5, c6, c7, c8, c9, c10, c11, rfl⟩ := list12 hl
 have hx : xs.length = 4 := by simpa using hlen
 obtain ⟨y0, y1, y2, y3, rfl⟩ := list4p hx
 have h0 := hf 0 _ rfl
 have h1 := hf 1 _ rfl
 have h2 := hf 2 _ rfl
 have h3 := hf 3 _ rfl
 obtain ⟨t, s, q, d, k, v, g, e0, _⟩ := trod_ev h0
 obtain ⟨st, v1, e1, g1⟩ := trod_state h1
 obtain ⟨v2, l2, e2, g2⟩ := trod_evs h2
 obtain ⟨v3, l3, e3, g3⟩ := trod_ems h3
 simp [cells23, cellsS, cellsEvs, cellsEms] at e0 e1 e2 e3
 obtain ⟨rfl, rfl, rfl, rfl, rfl, rfl, rfl⟩ := e0
 obtain ⟨rfl, rfl, rfl⟩ := e1
 subst e2 e3
 exact ⟨⟨⟨t, s, q, d, k, v, g⟩, st, l2, l3⟩, c7, c10, c11, rfl, g1.isD, g2.isD, g3.isD⟩
theorem ps_list {w : World} {b off : Nat} : ∀ n, (∀ i, i < n → ∃ p : Ps, ∀ r, r < 12 → ∃ u, w.cell? ⟨b, off + i * 12 + r, none⟩ = some u ∧ IsD w u (p.cell r)) →
  ∃ l : List Ps, l.length = n ∧ ∀ i, i < n → ∀ r, r < 12 → ∃ u, w.cell? ⟨b, off + i * 12 + r, none⟩ = some u ∧ IsD w u ((psAt l i).cell r)
 | 0, _ => ⟨[], rfl, fun i hi => by omega⟩
 | n + 1, h => by
  obtain ⟨l, hl, hi⟩ := ps_list n (fun i hi => h i (by omega))
  obtain ⟨e, he⟩ := h n (by omega)
  refine ⟨l ++ [e], by simp [hl], fun i hi' => ?_⟩
  by_cases hin : i < n
  ·have : psAt (l ++ [e]) i = psAt l i := by unfold psAt; simp [List.getElem?_append_left (by omega : i < l.length)]
   rw [this]; exact hi i hin
  ·have : psAt (l ++ [e]) i = e := by unfold psAt; simp [show i = l.length by omega]
   rw [this, show i = n by omega]; exact he
set_option maxRecDepth 100000 in
theorem trod_pasts {H : Type} {enc : TypeId × Value → H} {w : World} {spare : Nat → Bool} {held : Bool} {fuel : Nat} {cs : List Value} {x : DataW H × List MemPlace}
  (hf : DataW.trod enc Tryz.prog w 0 spare held fuel 133 cs = some x) : ∃ v l, cs = [v] ∧ IsD w v (pastsD l) := by
 rcases DataW.trod_slice Tryz.underlying133 hf with ⟨rfl, _⟩ | ⟨a, len, cap, elems, rest, n, _, rfl, _, hb, hl, hm, hlen, hel, _, _⟩
 ·exact ⟨_, [], rfl, .nil none 0 12 _ (by unfold maxLen; omega)⟩
 ·by_cases h0 : len = 0
  ·subst h0
   exact ⟨_, [], rfl, .nil _ _ 12 _ hm⟩
  ·obtain ⟨b, off, spot⟩ := a
   have hs : spot = none := by
    have h1 := hel 0 (by omega)
    rw [cellsPs, List.getElem?_eq_getElem (by omega)] at h1
    obtain ⟨cs, hc, ht⟩ := Option.bind_eq_some_iff.1 h1
    obtain ⟨p, u7, u10, u11, rfl, _⟩ := trod_past ht
    have c0 := (World.cells?_some hc).2.2 0 (by omega)
    simpa [Addr.add] using World.cell?_spot c0
   subst hs
   have each : ∀ i, i < len → ∃ p : Ps, (∀ r, r < 12 → ∃ u, w.cell? ⟨b, off + i * 12 + r, none⟩ = some u ∧ IsD w u (p.cell r)) ∧ b < w.heap.size := by
    intro i hi
    have h1 := hel i hi
    rw [cellsPs, List.getElem?_eq_getElem (by omega), add_plain] at h1
    obtain ⟨cs, hc, ht⟩ := Option.bind_eq_some_iff.1 h1
    obtain ⟨p, u7, u10, u11, rfl, g7, g10, g11⟩ := trod_past ht
    have hblk : b < w.heap.size := World.cells?_block hc (by omega)
    obtain ⟨_, _, hcell⟩ := World.cells?_some hc
    simp only [add_plain] at hcell
    refine ⟨p, fun r hr => ?_, hblk⟩
    have hcr := hcell r hr
    match r, hr, hcr with
    | 0, _, hcr => exact ⟨_, hcr, .val _⟩
    | 1, _, hcr => exact ⟨_, hcr, .val _⟩
    | 2, _, hcr => exact ⟨_, hcr, .val _⟩
    | 3, _, hcr => exact ⟨_, hcr, .val _⟩
    | 4, _, hcr => exact ⟨_, hcr, .val _⟩
    | 5, _, hcr => exact ⟨_, hcr, .val _⟩
    | 6, _, hcr => exact ⟨_, hcr, .val _⟩
    | 7, _, hcr => exact ⟨_, hcr, g7⟩
    | 8, _, hcr => exact ⟨_, hcr, .val _⟩
    | 9, _, hcr => exact ⟨_, hcr, .val _⟩
    | 10, _, hcr => exact ⟨_, hcr, g10⟩
    | 11, _, hcr => exact ⟨_, hcr, g11⟩
   obtain ⟨_, _, hblk⟩ := each 0 (by omega)
   obtain ⟨l, rfl, hi⟩ := ps_list (w := w) (b := b) (off := off) len (fun i hi => by
    obtain ⟨e, he, _⟩ := each i hi
    exact ⟨e, he⟩)
   refine ⟨_, l, rfl, IsD.of_parts hl hm (.inr ⟨b, off, rfl, hblk, fun j hj => ?_⟩)⟩
   obtain ⟨u, hu, hd⟩ := hi (j / 12) (by omega) (j % 12) (by omega)
   refine ⟨u, ?_, hd⟩
   rw [← hu]
   congr 2
   omega
end Go.Proofs.YtnlhcdchmgfipaaGreat

