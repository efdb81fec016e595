/- PCpO, PCp, PCq -/
import Derived.Test.YtdcnimdhfhbdmaaExactBackG11
import Derived.Deep.RegionHeld3
/- The program's copies: lists of any length, states. -/
namespace Go.Proofs.Ytdcnimdhfhbdmaa
open Go.RowKit
set_option maxRecDepth 100000 in
set_option maxHeartbeats 2000000 in
theorem copyEv_src (x : Value) (l : List Ev) (w : World) (hl : l.length ≤ 1048577) (h : SrcC w x 7 l.length (cellsL l)) :
  Calls Try.prog 71 #[x] w fun e w' => ∃ y, e = .returned y ∧ w'.ownsRow w.heap.size 40 7 y l.length (cellsL l) ∧ Below w.heap.size w w' := by
 obtain ⟨i0, hi, hz0, hz1, hz2⟩ := info_parts info25
 have HS : Hid (SrcC w x 7 l.length (cellsL l)) := h
 obtain ⟨_, a, c, rfl, _⟩ := h
 go_enter Try.func71, Try.ntmps71
 go_wp2_with (at_builtin; refine wpList_append_src _ rfl _ _ 34 rfl w.heap.size 40 i0 _ 7 56 Try.underlying34 hi hz0 hz1 hz2 rfl (by decide) (.slice none 0 0) 0 [] rfl (World.ownsRow_nil w w.heap.size 40 7) (.slice a l.length c) l.length (cellsL l) rfl HS.out (cellsL_ones l) (by unfold maxLen; omega) (by omega) (Nat.le_refl _) ?_; intro v' w' hown hgrow hnew)
 go_ret
 rw [Nat.zero_add, List.nil_append] at hown
 exact ⟨_, rfl, hown, (Below.refl _ w).grown hgrow (Nat.le_refl _) (fun k e => by cases e)⟩
set_option maxRecDepth 100000 in
set_option maxHeartbeats 2000000 in
theorem copyEm_src (x : Value) (l : List Em) (w : World) (hl : l.length ≤ 1048577) (h : SrcC w x 3 l.length (cellsX l)) :
  Calls Try.prog 72 #[x] w fun e w' => ∃ y, e = .returned y ∧ w'.ownsRow w.heap.size 99 3 y l.length (cellsX l) ∧ Below w.heap.size w w' := by
 obtain ⟨i0, hi, hz0, hz1, hz2⟩ := info_parts infoPX
 have HS : Hid (SrcC w x 3 l.length (cellsX l)) := h
 obtain ⟨_, a, c, rfl, _⟩ := h
 go_enter Try.func72, Try.ntmps72
 go_wp2_with (at_builtin; refine wpList_append_src _ rfl _ _ 65 rfl w.heap.size 99 i0 _ 3 24 Try.underlying65 hi hz0 hz1 hz2 rfl (by decide) (.slice none 0 0) 0 [] rfl (World.ownsRow_nil w w.heap.size 99 3) (.slice a l.length c) l.length (cellsX l) rfl HS.out (cellsX_ones l) (by unfold maxLen; omega) (by omega) (Nat.le_refl _) ?_; intro v' w' hown hgrow hnew)
 go_ret
 rw [Nat.zero_add, List.nil_append] at hown
 exact ⟨_, rfl, hown, (Below.refl _ w).grown hgrow (Nat.le_refl _) (fun k e => by cases e)⟩
set_option maxRecDepth 100000 in
set_option maxHeartbeats 2000000 in
theorem copyI_src (x : Value) (l : List Int) (w : World) (hl : l.length ≤ 1048577) (h : SrcC w x 1 l.length (intCells l)) :
  Calls Try.prog 73 #[x] w fun e w' => ∃ y, e = .returned y ∧ w'.ownsRow w.heap.size 3 1 y l.length (intCells l) ∧ Below w.heap.size w w' := by
 obtain ⟨i0, hi, hz0, hz1, hz2⟩ := info_parts info3
 have HS : Hid (SrcC w x 1 l.length (intCells l)) := h
 obtain ⟨_, a, c, rfl, _⟩ := h
 go_enter Try.func73, Try.ntmps73
 go_wp2_with (at_builtin; refine wpList_append_src _ rfl _ _ 22 rfl w.heap.size 3 i0 _ 1 8 Try.underlying22 hi hz0 hz1 hz2 rfl (by decide) (.slice none 0 0) 0 [] rfl (World.ownsRow_nil w w.heap.size 3 1) (.slice a l.length c) l.length (intCells l) rfl HS.out (intCells_ones l) (by unfold maxLen; omega) (by omega) (Nat.le_refl _) ?_; intro v' w' hown hgrow hnew)
 go_ret
 rw [Nat.zero_add, List.nil_append] at hown
 exact ⟨_, rfl, hown, (Below.refl _ w).grown hgrow (Nat.le_refl _) (fun k e => by cases e)⟩
set_option maxRecDepth 100000 in
set_option maxHeartbeats 4000000 in
theorem snap_src (x vr : Value) (s : St) (w : World) (hl : s.r.length ≤ 1048577) (hx : x = .agg #[vr, .int .i64 s.q, .int .i64 s.d]) (h : IsD w vr (intsD s.r)) :
  Calls Try.prog 70 #[x] w fun r w' => ∃ v, r = .returned (.agg #[v, .int .i64 s.q, .int .i64 s.d]) ∧ w'.ownsRow w.heap.size 3 1 v s.r.length (intCells s.r) ∧ Below w.heap.size w w' := by
 obtain ⟨ar, cr, rfl, _⟩ := IsD.len h
 subst hx
 obtain ⟨W0, hW0⟩ : ∃ W0, (w.alloc (.cells #[.slice ar s.r.length cr, .int .i64 s.q, .int .i64 s.d] 32)).alloc (.cells #[.slice none 0 0, .int .i64 0, .int .i64 0] 32) = W0 := ⟨_, rfl⟩
 have hz0 : W0.heap.size = w.heap.size + 1 + 1 := by rw [← hW0]; simp
 have hb0 : Below w.heap.size w W0 := hW0 ▸ ((Below.refl _ w).alloc (Nat.le_refl _) _).alloc (by simp) _
 have HBw : Hid (Below w.heap.size w W0) := hb0
 have HW0 : Hid ((w.alloc (.cells #[.slice ar s.r.length cr, .int .i64 s.q, .int .i64 s.d] 32)).alloc (.cells #[.slice none 0 0, .int .i64 0, .int .i64 0] 32) = W0) := hW0
 have BX : Hid (Bk W0 w.heap.size 32 #[.slice ar s.r.length cr, .int .i64 s.q, .int .i64 s.d]) := hW0 ▸ (Bk.new w _ _).alloc _
 have BZ : Hid (Bk W0 (w.heap.size + 1) 32 #[.slice none 0 0, .int .i64 0, .int .i64 0]) := hW0 ▸ Bk.newAt (by simp) _ _
 have D1 : Hid (IsD W0 (.slice ar s.r.length cr) (intsD s.r)) := h.under hb0
 have hz0' : W0.heap.size ≤ w.heap.size + 1 + 1 ∧ w.heap.size + 1 + 1 ≤ W0.heap.size := by omega
 have x0 := BX.out.cell (i := 0) rfl
 clear hb0 h hz0
 go_enter Try.func70, Try.ntmps70
 go_wp2_with fail
 clear hW0 x0
 refine (copyI_src _ s.r W0 hl D1.out.srcI).mono ?_
 rintro e w1 ⟨v, rfl, hown, hb⟩
 obtain ⟨av, cv, hv⟩ := owns_slice hown
 subst hv
 have HO : Hid (w1.ownsRow W0.heap.size 3 1 (.slice av s.r.length cv) s.r.length (intCells s.r)) := hown
 have hz1 : W0.heap.size ≤ w1.heap.size := hb.size
 have HB1 : Hid (Below w.heap.size w w1) := HBw.out.trans (hb.mono (by omega))
 have X1 : Hid (Bk w1 w.heap.size 32 #[.slice ar s.r.length cr, .int .i64 s.q, .int .i64 s.d]) := BX.out.below hb
 have Z1 : Hid (Bk w1 (w.heap.size + 1) 32 #[.slice none 0 0, .int .i64 0, .int .i64 0]) := BZ.out.below hb
 have x0 := X1.out.cell (i := 0) rfl
 have xf := X1.out.free
 obtain ⟨W2, hW2⟩ : ∃ V, w1.setCell ⟨w.heap.size, 0, none⟩ (.slice av s.r.length cv) = V := ⟨_, rfl⟩
 have hP := X1.out.put 0 (.slice av s.r.length cv)
 have ht := put1_turns w1 w.heap.size 0 (.slice av s.r.length cv)
 rw [hW2] at hP ht
 have HW2 : Hid (w1.setCell ⟨w.heap.size, 0, none⟩ (.slice av s.r.length cv) = W2) := hW2
 have X2 : Hid (Bk W2 w.heap.size 32 #[.slice av s.r.length cv, .int .i64 s.q, .int .i64 s.d]) := hP
 have Z2 : Hid (Bk W2 (w.heap.size + 1) 32 #[.slice none 0 0, .int .i64 0, .int .i64 0]) := Z1.out.turns ht (by omega)
 have T2 : Hid (Turns (fun b => b = w.heap.size) w1 W2) := ht
 clear hW2 hP ht hown hb
 have y0 := X2.out.cell (i := 0) rfl
 have y1 := X2.out.cell (i := 1) rfl
 have y2 := X2.out.cell (i := 2) rfl
 have z0 := Z2.out.cell (i := 0) rfl
 have z1 := Z2.out.cell (i := 1) rfl
 have z2 := Z2.out.cell (i := 2) rfl
 have zf := Z2.out.free
 have hW2 := HW2.out
 obtain ⟨X5, hX5⟩ : ∃ X5, put3s W2 (w.heap.size + 1) (.slice av s.r.length cv) (.int .i64 s.q) (.int .i64 s.d) = X5 := ⟨_, rfl⟩
 have hP5 := Z2.out.put3s (.slice av s.r.length cv) (.int .i64 s.q) (.int .i64 s.d)
 have ht5 := put3s_turns W2 (w.heap.size + 1) (.slice av s.r.length cv) (.int .i64 s.q) (.int .i64 s.d)
 rw [hX5] at hP5 ht5
 have HP5 : Hid (Bk X5 (w.heap.size + 1) 32 #[.slice av s.r.length cv, .int .i64 s.q, .int .i64 s.d]) := hP5
 have HT5 : Hid (Turns (fun b => b = (w.heap.size + 1)) W2 X5) := ht5
 unfold put3s at hX5
 have HX5 : Hid _ := hX5
 clear hP5 ht5 hX5
 go_wp2
 rw [HX5.out]
 have t0 := HP5.out.cell (i := 0) rfl
 have t1 := HP5.out.cell (i := 1) rfl
 have t2 := HP5.out.cell (i := 2) rfl
 refine bodyPost_ret (v := .agg #[.slice av s.r.length cv, .int .i64 s.q, .int .i64 s.d]) (by simp [results, Try.results70, go_sem, t0, t1, t2]) rfl ⟨_, rfl, ?_, (HB1.out.trans (T2.out.to_below (fun k e => by omega) (by omega))).trans (HT5.out.to_below (fun k e => by omega) (by have := T2.out.size; omega))⟩
 exact owns_mono (owns_turns (owns_turns HO.out T2.out (fun k hk e => by have := row_ge HO.out hk; omega)) HT5.out (fun k hk e => by have := row_ge HO.out hk; omega)) (by omega)
end Go.Proofs.Ytdcnimdhfhbdmaa

/- The program's copy of what was done: all of it in memory of its own. -/
namespace Go.Proofs.Ytdcnimdhfhbdmaa
open Go.RowKit
set_option maxRecDepth 100000 in
set_option maxHeartbeats 16000000 in
theorem copyPasts_any (x : Value) (l : List Ps) (w : World) (hw : (pastsD l).wt ≤ 1048577) (h : IsD w x (pastsD l)) :
  Calls Try.prog 38 #[x] w fun r w' => ∃ y, r = .returned y ∧ Below w.heap.size w w' ∧ OwnD w' (fun k => w.heap.size ≤ k ∧ k < w'.heap.size) y (pastsD l) := by
 obtain ⟨a4, c4, rfl, _⟩ := IsD.len h
 have hl9 : l.length ≤ 1048577 := by
  have := pastsD_wt l
  omega
 have HWT : Hid ((pastsD l).wt ≤ 1048577) := hw
 have HD : Hid (IsD w (.slice a4 l.length c4) (pastsD l)) := h
 obtain ⟨ip, hip, hip0, hip1, hip2⟩ := info_parts infoPQ
 clear hw h
 go_enter Try.func38, Try.ntmps38
 go_wp2
 go_loopw [3, 5, 8] (fun o3 u5 i wr => ∃ (k : Nat) (vp : Value) (cs : List Value) (G : Nat → Nat → Prop), k ≤ l.length ∧ vp = o3 ∧ i = .int .i64 k ∧ GrowD w.heap.size 67 wr vp 12 k cs (pastsD_f l) G ∧ Below w.heap.size w wr) (fun _ _ i _ => l.length - (intOf i).toNat)
 case atStart => exact ⟨0, _, [], fun _ _ => False, Nat.zero_le _, rfl, rfl, GrowD.nil _ _ _ _ _ _, Below.refl _ _⟩
 case round =>
  obtain ⟨k, vp, cs, G, hk, rfl, rfl, hG, hB⟩ := hrel
  obtain ⟨ap, cp, hvp⟩ := owns_slice hG.row
  subst hvp
  have HG : Hid (GrowD w.heap.size 67 wr (.slice ap k cp) 12 k cs (pastsD_f l) G) := hG
  have HBr : Hid (Below w.heap.size w wr) := hB
  have hzr : w.heap.size ≤ wr.heap.size := hB.size
  have HV : Hid (∀ b, (.slice ap k cp : Value).ownBlock = some b → b < wr.heap.size) := fun b e => owns_lt hG.row e
  clear hG hB
  by_cases hlt : k < l.length
  ·have hki : (k : Int) < (l.length : Int) := by omega
   have hD4 := HD.out.under HBr.out
   obtain ⟨a4', cap4, he4, _, _, h4⟩ := IsD.parts (c := 12) (n := l.length) hD4
   have h4' := h4.resolve_left (by omega)
   obtain ⟨b, off, ha4, hb4, hc4⟩ := h4'
   obtain ⟨rfl, rfl⟩ : a4 = a4' ∧ c4 = cap4 := by simpa using he4
   subst ha4
   obtain ⟨u7, u10, u11, f0, f1, f2, f3, f4, f5, f6, f7c, f8, f9, f10c, f11c, d7, d10, d11⟩ := pastsD_in hc4 hlt
   obtain ⟨f7, g7, rfl, _⟩ := IsD.len d7
   obtain ⟨f10, g10, rfl, _⟩ := IsD.len d10
   obtain ⟨f11, g11, rfl, _⟩ := IsD.len d11
   have hqs : (psAt l k).s.length ≤ 1048577 ∧ (psAt l k).x.length ≤ 1048577 ∧ (psAt l k).b.r.length ≤ 1048577 := by
    have e0 := ints_wt (psAt l k).b.r
    have e1 := Ps.wt_le hlt
    have e2 := evs_wt (psAt l k).s
    have e3 := ems_wt (psAt l k).x
    have e4 := HWT.out
    unfold Ps.wt at e1
    omega
   obtain ⟨hqs1, hqx1, hqr1⟩ := hqs
   obtain ⟨V0, hV0⟩ : ∃ V, wr.alloc (.cells #[.int .i64 (psAt l k).e.t, .int .i64 (psAt l k).e.s, .int .i64 (psAt l k).e.q, .int .i64 (psAt l k).e.d, .int .i64 (psAt l k).e.k, .int .i64 (psAt l k).e.v, .int .i64 (psAt l k).e.g, .slice f7 (psAt l k).b.r.length g7, .int .i64 (psAt l k).b.q, .int .i64 (psAt l k).b.d, .slice f10 (psAt l k).s.length g10, .slice f11 (psAt l k).x.length g11] 67) = V := ⟨_, rfl⟩
   have HV0 : Hid (wr.alloc (.cells #[.int .i64 (psAt l k).e.t, .int .i64 (psAt l k).e.s, .int .i64 (psAt l k).e.q, .int .i64 (psAt l k).e.d, .int .i64 (psAt l k).e.k, .int .i64 (psAt l k).e.v, .int .i64 (psAt l k).e.g, .slice f7 (psAt l k).b.r.length g7, .int .i64 (psAt l k).b.q, .int .i64 (psAt l k).b.d, .slice f10 (psAt l k).s.length g10, .slice f11 (psAt l k).x.length g11] 67) = V0) := hV0
   have hbv : Below wr.heap.size wr V0 := hV0 ▸ (Below.refl _ wr).alloc (Nat.le_refl _) _
   obtain ⟨Eb, hEb⟩ : ∃ g, g = wr.heap.size := ⟨_, rfl⟩
   have HEb : Hid (Eb = wr.heap.size) := hEb
   have XE : Hid (Bk V0 Eb 67 #[.int .i64 (psAt l k).e.t, .int .i64 (psAt l k).e.s, .int .i64 (psAt l k).e.q, .int .i64 (psAt l k).e.d, .int .i64 (psAt l k).e.k, .int .i64 (psAt l k).e.v, .int .i64 (psAt l k).e.g, .slice f7 (psAt l k).b.r.length g7, .int .i64 (psAt l k).b.q, .int .i64 (psAt l k).b.d, .slice f10 (psAt l k).s.length g10, .slice f11 (psAt l k).x.length g11]) := hV0 ▸ hEb ▸ Bk.new wr _ _
   have GV : Hid (GrowD w.heap.size 67 V0 (.slice ap k cp) 12 k cs (pastsD_f l) G) := HG.out.below hbv
   have D7V : Hid (IsD V0 (.slice f7 (psAt l k).b.r.length g7) (intsD (psAt l k).b.r)) := d7.under hbv
   have D10V : Hid (IsD V0 (.slice f10 (psAt l k).s.length g10) (evsD (psAt l k).s)) := d10.under hbv
   have D11V : Hid (IsD V0 (.slice f11 (psAt l k).x.length g11) (emsD (psAt l k).x)) := d11.under hbv
   have BV : Hid (Below w.heap.size w V0) := HBr.out.trans (hbv.mono hzr)
   have hEl : Eb < V0.heap.size := XE.out.lt
   have hEy : wr.heap.size ≤ Eb ∧ Eb ≤ wr.heap.size := by omega
   have HVE : Hid (∀ b, (.slice ap k cp : Value).ownBlock = some b → b < Eb ∧ w.heap.size ≤ b) := fun b e => ⟨by have := HV.out b e; omega, row_ge HG.out.row e⟩
   clear hV0 hEb hbv d7 d10 d11 hD4 h4 hc4 he4 HG HV
   go_wp2_with fail
   rw [HV0.out, ← HEb.out]
   clear HV0 HEb f0 f1 f2 f3 f4 f5 f6 f7c f8 f9 f10c f11c
   have hzv : V0.drew.heap.size ≤ V0.heap.size ∧ V0.heap.size ≤ V0.drew.heap.size := ⟨Nat.le_refl _, Nat.le_refl _⟩
   have B_1 : Hid (Below V0.heap.size V0 V0.drew) := (Below.refl _ V0).drew
   have X_1 : Hid (Bk V0.drew Eb 67 #[.int .i64 (psAt l k).e.t, .int .i64 (psAt l k).e.s, .int .i64 (psAt l k).e.q, .int .i64 (psAt l k).e.d, .int .i64 (psAt l k).e.k, .int .i64 (psAt l k).e.v, .int .i64 (psAt l k).e.g, .slice f7 (psAt l k).b.r.length g7, .int .i64 (psAt l k).b.q, .int .i64 (psAt l k).b.d, .slice f10 (psAt l k).s.length g10, .slice f11 (psAt l k).x.length g11]) := XE.out.drew
   have D7_1 : Hid (IsD V0.drew (.slice f7 (psAt l k).b.r.length g7) (intsD (psAt l k).b.r)) := D7V.out.under (Below.refl _ V0).drew
   have D10_1 : Hid (IsD V0.drew (.slice f10 (psAt l k).s.length g10) (evsD (psAt l k).s)) := D10V.out.under (Below.refl _ V0).drew
   have D11_1 : Hid (IsD V0.drew (.slice f11 (psAt l k).x.length g11) (emsD (psAt l k).x)) := D11V.out.under (Below.refl _ V0).drew
   have Q_1 : Hid (V0.drew.cell? ⟨Eb, 0, none⟩ = some (.int .i64 (psAt l k).e.t) ∧ V0.drew.cell? ⟨Eb, 1, none⟩ = some (.int .i64 (psAt l k).e.s) ∧ V0.drew.cell? ⟨Eb, 2, none⟩ = some (.int .i64 (psAt l k).e.q) ∧ V0.drew.cell? ⟨Eb, 3, none⟩ = some (.int .i64 (psAt l k).e.d) ∧ V0.drew.cell? ⟨Eb, 4, none⟩ = some (.int .i64 (psAt l k).e.k) ∧ V0.drew.cell? ⟨Eb, 5, none⟩ = some (.int .i64 (psAt l k).e.v) ∧ V0.drew.cell? ⟨Eb, 6, none⟩ = some (.int .i64 (psAt l k).e.g) ∧ V0.drew.cell? ⟨Eb, 7, none⟩ = some (.slice f7 (psAt l k).b.r.length g7) ∧ V0.drew.cell? ⟨Eb, 8, none⟩ = some (.int .i64 (psAt l k).b.q) ∧ V0.drew.cell? ⟨Eb, 9, none⟩ = some (.int .i64 (psAt l k).b.d) ∧ V0.drew.cell? ⟨Eb, 10, none⟩ = some (.slice f10 (psAt l k).s.length g10) ∧ V0.drew.cell? ⟨Eb, 11, none⟩ = some (.slice f11 (psAt l k).x.length g11)) := ⟨X_1.out.cell rfl, X_1.out.cell rfl, X_1.out.cell rfl, X_1.out.cell rfl, X_1.out.cell rfl, X_1.out.cell rfl, X_1.out.cell rfl, X_1.out.cell rfl, X_1.out.cell rfl, X_1.out.cell rfl, X_1.out.cell rfl, X_1.out.cell rfl⟩
   clear XE D7V D10V D11V
   refine wp_region_held_drew (S := fun W => W.cell? ⟨Eb, 0, none⟩ = some (.int .i64 (psAt l k).e.t) ∧ W.cell? ⟨Eb, 1, none⟩ = some (.int .i64 (psAt l k).e.s) ∧ W.cell? ⟨Eb, 2, none⟩ = some (.int .i64 (psAt l k).e.q) ∧ W.cell? ⟨Eb, 3, none⟩ = some (.int .i64 (psAt l k).e.d) ∧ W.cell? ⟨Eb, 4, none⟩ = some (.int .i64 (psAt l k).e.k) ∧ W.cell? ⟨Eb, 5, none⟩ = some (.int .i64 (psAt l k).e.v) ∧ W.cell? ⟨Eb, 6, none⟩ = some (.int .i64 (psAt l k).e.g) ∧ W.cell? ⟨Eb, 7, none⟩ = some (.slice f7 (psAt l k).b.r.length g7) ∧ W.cell? ⟨Eb, 8, none⟩ = some (.int .i64 (psAt l k).b.q) ∧ W.cell? ⟨Eb, 9, none⟩ = some (.int .i64 (psAt l k).b.d) ∧ W.cell? ⟨Eb, 10, none⟩ = some (.slice f10 (psAt l k).s.length g10) ∧ W.cell? ⟨Eb, 11, none⟩ = some (.slice f11 (psAt l k).x.length g11)) (by kernel_rfl) Q_1.out (fun hHeld => ?_)
   refine wpAnyH_take (i := 0) (oi := { dst := some 12, op := Op.move (Operand.tmp 3), type := 33, pos := _, after := _, guard := none }) (v := .slice ap k cp) rfl (by kernel_rfl) (by kernel_rfl) (by kernel_rfl) (fun _ _ _ h => h) (Or.inl ⟨by rfl, ?_⟩) (by assumption) ?_
   ·intro wX hSw
    try dsimp only at hSw
    go_simp
    try exact IntWalk.i64_in _ (by omega)
   try simp only [Act.put, List.setIfInBounds_toArray, List.set_cons_zero, List.set_cons_succ]
   refine wpAnyH_take (i := 1) (oi := { dst := some 13, op := Op.fieldAddr 67 (Operand.tmp 5) 0, type := 0, pos := _, after := _, guard := none }) (v := .pointer (some ⟨Eb, 0, none⟩)) rfl (by kernel_rfl) (by kernel_rfl) (by kernel_rfl) (fun _ _ _ h => h) (Or.inl ⟨by rfl, ?_⟩) (by assumption) ?_
   ·intro wX hSw
    try dsimp only at hSw
    go_simp
    try exact IntWalk.i64_in _ (by omega)
   try simp only [Act.put, List.setIfInBounds_toArray, List.set_cons_zero, List.set_cons_succ]
   refine wpAnyH_take (i := 2) (oi := { dst := some 14, op := Op.load 40 (Operand.tmp 13), type := 40, pos := _, after := _, guard := none }) (v := .agg #[.int .i64 (psAt l k).e.t, .int .i64 (psAt l k).e.s, .int .i64 (psAt l k).e.q, .int .i64 (psAt l k).e.d, .int .i64 (psAt l k).e.k, .int .i64 (psAt l k).e.v, .int .i64 (psAt l k).e.g]) rfl (by kernel_rfl) (by kernel_rfl) (by kernel_rfl) (fun _ _ _ h => h) (Or.inl ⟨by rfl, ?_⟩) (by assumption) ?_
   ·intro wX hSw
    try dsimp only at hSw
    go_simp
    try exact IntWalk.i64_in _ (by omega)
   try simp only [Act.put, List.setIfInBounds_toArray, List.set_cons_zero, List.set_cons_succ]
   refine wpAnyH_take (i := 3) (oi := { dst := some 15, op := Op.fieldAddr 67 (Operand.tmp 5) 1, type := 0, pos := _, after := _, guard := none }) (v := .pointer (some ⟨Eb, 7, none⟩)) rfl (by kernel_rfl) (by kernel_rfl) (by kernel_rfl) (fun _ _ _ h => h) (Or.inl ⟨by rfl, ?_⟩) (by assumption) ?_
   ·intro wX hSw
    try dsimp only at hSw
    go_simp
    try exact IntWalk.i64_in _ (by omega)
   try simp only [Act.put, List.setIfInBounds_toArray, List.set_cons_zero, List.set_cons_succ]
   refine wpAnyH_take (i := 4) (oi := { dst := some 16, op := Op.load 32 (Operand.tmp 15), type := 32, pos := _, after := _, guard := none }) (v := .agg #[.slice f7 (psAt l k).b.r.length g7, .int .i64 (psAt l k).b.q, .int .i64 (psAt l k).b.d]) rfl (by kernel_rfl) (by kernel_rfl) (by kernel_rfl) (fun _ _ _ h => h) (Or.inl ⟨by rfl, ?_⟩) (by assumption) ?_
   ·intro wX hSw
    try dsimp only at hSw
    go_simp
    try exact IntWalk.i64_in _ (by omega)
   try simp only [Act.put, List.setIfInBounds_toArray, List.set_cons_zero, List.set_cons_succ]
   refine wpAnyH_take (i := 6) (oi := { dst := some 18, op := Op.fieldAddr 67 (Operand.tmp 5) 2, type := 0, pos := _, after := _, guard := none }) (v := .pointer (some ⟨Eb, 10, none⟩)) rfl (by kernel_rfl) (by kernel_rfl) (by kernel_rfl) (fun _ _ _ h => h) (Or.inl ⟨by rfl, ?_⟩) (by assumption) ?_
   ·intro wX hSw
    try dsimp only at hSw
    go_simp
    try exact IntWalk.i64_in _ (by omega)
   try simp only [Act.put, List.setIfInBounds_toArray, List.set_cons_zero, List.set_cons_succ]
   refine wpAnyH_take (i := 7) (oi := { dst := some 19, op := Op.load 34 (Operand.tmp 18), type := 34, pos := _, after := _, guard := none }) (v := .slice f10 (psAt l k).s.length g10) rfl (by kernel_rfl) (by kernel_rfl) (by kernel_rfl) (fun _ _ _ h => h) (Or.inl ⟨by rfl, ?_⟩) (by assumption) ?_
   ·intro wX hSw
    try dsimp only at hSw
    go_simp
    try exact IntWalk.i64_in _ (by omega)
   try simp only [Act.put, List.setIfInBounds_toArray, List.set_cons_zero, List.set_cons_succ]
   refine wpAnyH_take (i := 9) (oi := { dst := some 21, op := Op.fieldAddr 67 (Operand.tmp 5) 3, type := 0, pos := _, after := _, guard := none }) (v := .pointer (some ⟨Eb, 11, none⟩)) rfl (by kernel_rfl) (by kernel_rfl) (by kernel_rfl) (fun _ _ _ h => h) (Or.inl ⟨by rfl, ?_⟩) (by assumption) ?_
   ·intro wX hSw
    try dsimp only at hSw
    go_simp
    try exact IntWalk.i64_in _ (by omega)
   try simp only [Act.put, List.setIfInBounds_toArray, List.set_cons_zero, List.set_cons_succ]
   refine wpAnyH_take (i := 10) (oi := { dst := some 22, op := Op.load 65 (Operand.tmp 21), type := 65, pos := _, after := _, guard := none }) (v := .slice f11 (psAt l k).x.length g11) rfl (by kernel_rfl) (by kernel_rfl) (by kernel_rfl) (fun _ _ _ h => h) (Or.inl ⟨by rfl, ?_⟩) (by assumption) ?_
   ·intro wX hSw
    try dsimp only at hSw
    go_simp
    try exact IntWalk.i64_in _ (by omega)
   try simp only [Act.put, List.setIfInBounds_toArray, List.set_cons_zero, List.set_cons_succ]
   refine wpAnyH_ready (rs := [5]) (by kernel_rfl) (by simp) ?_
   refine AllReadyH.cons (o := { dst := some 17, op := Op.call { callee := Callee.value (Operand.func 70), args := #[Operand.tmp 16], argTypes := #[32] }, type := 32, pos := _, after := _, guard := none }) rfl (fun K hK => ?_) AllReadyH.nil
   have hbs2 : V0.heap.size ≤ V0.drew.heap.size := B_1.out.size
   go_simp
   refine (snap_src _ _ (psAt l k).b V0.drew hqr1 rfl D7_1.out ).mono ?_
   rintro e w2 ⟨vs1, rfl, hown, hb⟩
   obtain ⟨as1, cs1, hvs⟩ := owns_slice hown
   subst hvs
   have HLS : Hid (∀ k', (.slice as1 (psAt l k).b.r.length cs1 : Value).ownBlock = some k' → V0.drew.heap.size ≤ k' ∧ k' < w2.heap.size) := row_lim hown
   have hz2 : V0.drew.heap.size ≤ w2.heap.size := hb.size
   have B_3 : Hid (Below V0.heap.size V0 w2) := B_1.out.trans (hb.mono B_1.out.size)
   have X_3 : Hid (Bk w2 Eb 67 #[.int .i64 (psAt l k).e.t, .int .i64 (psAt l k).e.s, .int .i64 (psAt l k).e.q, .int .i64 (psAt l k).e.d, .int .i64 (psAt l k).e.k, .int .i64 (psAt l k).e.v, .int .i64 (psAt l k).e.g, .slice f7 (psAt l k).b.r.length g7, .int .i64 (psAt l k).b.q, .int .i64 (psAt l k).b.d, .slice f10 (psAt l k).s.length g10, .slice f11 (psAt l k).x.length g11]) := X_1.out.below hb
   have D10_3 : Hid (IsD w2 (.slice f10 (psAt l k).s.length g10) (evsD (psAt l k).s)) := D10_1.out.under hb
   have D11_3 : Hid (IsD w2 (.slice f11 (psAt l k).x.length g11) (emsD (psAt l k).x)) := D11_1.out.under hb
   clear B_1 X_1 D7_1 D10_1 D11_1
   have S_3 : Hid (w2.ownsRow V0.heap.size 3 1 (.slice as1 (psAt l k).b.r.length cs1) (psAt l k).b.r.length (intCells (psAt l k).b.r)) := owns_mono hown hbs2
   clear hown hb
   have Q_3 : Hid (w2.cell? ⟨Eb, 0, none⟩ = some (.int .i64 (psAt l k).e.t) ∧ w2.cell? ⟨Eb, 1, none⟩ = some (.int .i64 (psAt l k).e.s) ∧ w2.cell? ⟨Eb, 2, none⟩ = some (.int .i64 (psAt l k).e.q) ∧ w2.cell? ⟨Eb, 3, none⟩ = some (.int .i64 (psAt l k).e.d) ∧ w2.cell? ⟨Eb, 4, none⟩ = some (.int .i64 (psAt l k).e.k) ∧ w2.cell? ⟨Eb, 5, none⟩ = some (.int .i64 (psAt l k).e.v) ∧ w2.cell? ⟨Eb, 6, none⟩ = some (.int .i64 (psAt l k).e.g) ∧ w2.cell? ⟨Eb, 7, none⟩ = some (.slice f7 (psAt l k).b.r.length g7) ∧ w2.cell? ⟨Eb, 8, none⟩ = some (.int .i64 (psAt l k).b.q) ∧ w2.cell? ⟨Eb, 9, none⟩ = some (.int .i64 (psAt l k).b.d) ∧ w2.cell? ⟨Eb, 10, none⟩ = some (.slice f10 (psAt l k).s.length g10) ∧ w2.cell? ⟨Eb, 11, none⟩ = some (.slice f11 (psAt l k).x.length g11)) := ⟨X_3.out.cell rfl, X_3.out.cell rfl, X_3.out.cell rfl, X_3.out.cell rfl, X_3.out.cell rfl, X_3.out.cell rfl, X_3.out.cell rfl, X_3.out.cell rfl, X_3.out.cell rfl, X_3.out.cell rfl, X_3.out.cell rfl, X_3.out.cell rfl⟩
   refine hK.out _ _ Q_3.out (fun hHeld => ?_)
   clear hK K
   try simp only [Act.put, List.setIfInBounds_toArray, List.set_cons_zero, List.set_cons_succ]
   refine wpAnyH_ready (rs := [8]) (by kernel_rfl) (by simp) ?_
   refine AllReadyH.cons (o := { dst := some 20, op := Op.call { callee := Callee.value (Operand.func 71), args := #[Operand.tmp 19], argTypes := #[34] }, type := 34, pos := _, after := _, guard := none }) rfl (fun K hK => ?_) AllReadyH.nil
   have hbs4 : V0.heap.size ≤ w2.heap.size := B_3.out.size
   go_simp
   refine (copyEv_src _ (psAt l k).s w2 hqs1 D10_3.out.srcEv ).mono ?_
   rintro e w4 ⟨vs1, rfl, hown, hb⟩
   obtain ⟨at1, ct1, hvs⟩ := owns_slice hown
   subst hvs
   have HLT : Hid (∀ k', (.slice at1 (psAt l k).s.length ct1 : Value).ownBlock = some k' → w2.heap.size ≤ k' ∧ k' < w4.heap.size) := row_lim hown
   have hz4 : w2.heap.size ≤ w4.heap.size := hb.size
   have B_5 : Hid (Below V0.heap.size V0 w4) := B_3.out.trans (hb.mono B_3.out.size)
   have X_5 : Hid (Bk w4 Eb 67 #[.int .i64 (psAt l k).e.t, .int .i64 (psAt l k).e.s, .int .i64 (psAt l k).e.q, .int .i64 (psAt l k).e.d, .int .i64 (psAt l k).e.k, .int .i64 (psAt l k).e.v, .int .i64 (psAt l k).e.g, .slice f7 (psAt l k).b.r.length g7, .int .i64 (psAt l k).b.q, .int .i64 (psAt l k).b.d, .slice f10 (psAt l k).s.length g10, .slice f11 (psAt l k).x.length g11]) := X_3.out.below hb
   have D11_5 : Hid (IsD w4 (.slice f11 (psAt l k).x.length g11) (emsD (psAt l k).x)) := D11_3.out.under hb
   have S_5 : Hid (w4.ownsRow V0.heap.size 3 1 (.slice as1 (psAt l k).b.r.length cs1) (psAt l k).b.r.length (intCells (psAt l k).b.r)) := owns_turns S_3.out (Turns.of_below hb) (fun _ _ => id)
   clear B_3 X_3 D10_3 D11_3 S_3
   have T_5 : Hid (w4.ownsRow V0.heap.size 40 7 (.slice at1 (psAt l k).s.length ct1) (psAt l k).s.length (cellsL (psAt l k).s)) := owns_mono hown hbs4
   clear hown hb
   have Q_5 : Hid (w4.cell? ⟨Eb, 0, none⟩ = some (.int .i64 (psAt l k).e.t) ∧ w4.cell? ⟨Eb, 1, none⟩ = some (.int .i64 (psAt l k).e.s) ∧ w4.cell? ⟨Eb, 2, none⟩ = some (.int .i64 (psAt l k).e.q) ∧ w4.cell? ⟨Eb, 3, none⟩ = some (.int .i64 (psAt l k).e.d) ∧ w4.cell? ⟨Eb, 4, none⟩ = some (.int .i64 (psAt l k).e.k) ∧ w4.cell? ⟨Eb, 5, none⟩ = some (.int .i64 (psAt l k).e.v) ∧ w4.cell? ⟨Eb, 6, none⟩ = some (.int .i64 (psAt l k).e.g) ∧ w4.cell? ⟨Eb, 7, none⟩ = some (.slice f7 (psAt l k).b.r.length g7) ∧ w4.cell? ⟨Eb, 8, none⟩ = some (.int .i64 (psAt l k).b.q) ∧ w4.cell? ⟨Eb, 9, none⟩ = some (.int .i64 (psAt l k).b.d) ∧ w4.cell? ⟨Eb, 10, none⟩ = some (.slice f10 (psAt l k).s.length g10) ∧ w4.cell? ⟨Eb, 11, none⟩ = some (.slice f11 (psAt l k).x.length g11)) := ⟨X_5.out.cell rfl, X_5.out.cell rfl, X_5.out.cell rfl, X_5.out.cell rfl, X_5.out.cell rfl, X_5.out.cell rfl, X_5.out.cell rfl, X_5.out.cell rfl, X_5.out.cell rfl, X_5.out.cell rfl, X_5.out.cell rfl, X_5.out.cell rfl⟩
   refine hK.out _ _ Q_5.out (fun hHeld => ?_)
   clear hK K
   try simp only [Act.put, List.setIfInBounds_toArray, List.set_cons_zero, List.set_cons_succ]
   refine wpAnyH_ready (rs := [11]) (by kernel_rfl) (by simp) ?_
   refine AllReadyH.cons (o := { dst := some 23, op := Op.call { callee := Callee.value (Operand.func 72), args := #[Operand.tmp 22], argTypes := #[65] }, type := 65, pos := _, after := _, guard := none }) rfl (fun K hK => ?_) AllReadyH.nil
   have hbs6 : V0.heap.size ≤ w4.heap.size := B_5.out.size
   go_simp
   refine (copyEm_src _ (psAt l k).x w4 hqx1 D11_5.out.srcX ).mono ?_
   rintro e w6 ⟨vs1, rfl, hown, hb⟩
   obtain ⟨av1, cv1, hvs⟩ := owns_slice hown
   subst hvs
   have HLA : Hid (∀ k', (.slice av1 (psAt l k).x.length cv1 : Value).ownBlock = some k' → w4.heap.size ≤ k' ∧ k' < w6.heap.size) := row_lim hown
   have hz6 : w4.heap.size ≤ w6.heap.size := hb.size
   have B_7 : Hid (Below V0.heap.size V0 w6) := B_5.out.trans (hb.mono B_5.out.size)
   have X_7 : Hid (Bk w6 Eb 67 #[.int .i64 (psAt l k).e.t, .int .i64 (psAt l k).e.s, .int .i64 (psAt l k).e.q, .int .i64 (psAt l k).e.d, .int .i64 (psAt l k).e.k, .int .i64 (psAt l k).e.v, .int .i64 (psAt l k).e.g, .slice f7 (psAt l k).b.r.length g7, .int .i64 (psAt l k).b.q, .int .i64 (psAt l k).b.d, .slice f10 (psAt l k).s.length g10, .slice f11 (psAt l k).x.length g11]) := X_5.out.below hb
   have S_7 : Hid (w6.ownsRow V0.heap.size 3 1 (.slice as1 (psAt l k).b.r.length cs1) (psAt l k).b.r.length (intCells (psAt l k).b.r)) := owns_turns S_5.out (Turns.of_below hb) (fun _ _ => id)
   have T_7 : Hid (w6.ownsRow V0.heap.size 40 7 (.slice at1 (psAt l k).s.length ct1) (psAt l k).s.length (cellsL (psAt l k).s)) := owns_turns T_5.out (Turns.of_below hb) (fun _ _ => id)
   clear B_5 X_5 D11_5 S_5 T_5
   have A_7 : Hid (w6.ownsRow V0.heap.size 99 3 (.slice av1 (psAt l k).x.length cv1) (psAt l k).x.length (cellsX (psAt l k).x)) := owns_mono hown hbs6
   clear hown hb
   have Q_7 : Hid (w6.cell? ⟨Eb, 0, none⟩ = some (.int .i64 (psAt l k).e.t) ∧ w6.cell? ⟨Eb, 1, none⟩ = some (.int .i64 (psAt l k).e.s) ∧ w6.cell? ⟨Eb, 2, none⟩ = some (.int .i64 (psAt l k).e.q) ∧ w6.cell? ⟨Eb, 3, none⟩ = some (.int .i64 (psAt l k).e.d) ∧ w6.cell? ⟨Eb, 4, none⟩ = some (.int .i64 (psAt l k).e.k) ∧ w6.cell? ⟨Eb, 5, none⟩ = some (.int .i64 (psAt l k).e.v) ∧ w6.cell? ⟨Eb, 6, none⟩ = some (.int .i64 (psAt l k).e.g) ∧ w6.cell? ⟨Eb, 7, none⟩ = some (.slice f7 (psAt l k).b.r.length g7) ∧ w6.cell? ⟨Eb, 8, none⟩ = some (.int .i64 (psAt l k).b.q) ∧ w6.cell? ⟨Eb, 9, none⟩ = some (.int .i64 (psAt l k).b.d) ∧ w6.cell? ⟨Eb, 10, none⟩ = some (.slice f10 (psAt l k).s.length g10) ∧ w6.cell? ⟨Eb, 11, none⟩ = some (.slice f11 (psAt l k).x.length g11)) := ⟨X_7.out.cell rfl, X_7.out.cell rfl, X_7.out.cell rfl, X_7.out.cell rfl, X_7.out.cell rfl, X_7.out.cell rfl, X_7.out.cell rfl, X_7.out.cell rfl, X_7.out.cell rfl, X_7.out.cell rfl, X_7.out.cell rfl, X_7.out.cell rfl⟩
   refine hK.out _ _ Q_7.out (fun hHeld => ?_)
   clear hK K
   try simp only [Act.put, List.setIfInBounds_toArray, List.set_cons_zero, List.set_cons_succ]
   refine wpAnyH_take (i := 12) (oi := { dst := some 24, op := Op.build 67 #[(0, Operand.tmp 14), (1, Operand.tmp 17), (2, Operand.tmp 20), (3, Operand.tmp 23)], type := 67, pos := _, after := _, guard := none }) (v := .agg #[.int .i64 (psAt l k).e.t, .int .i64 (psAt l k).e.s, .int .i64 (psAt l k).e.q, .int .i64 (psAt l k).e.d, .int .i64 (psAt l k).e.k, .int .i64 (psAt l k).e.v, .int .i64 (psAt l k).e.g, .slice as1 (psAt l k).b.r.length cs1, .int .i64 (psAt l k).b.q, .int .i64 (psAt l k).b.d, .slice at1 (psAt l k).s.length ct1, .slice av1 (psAt l k).x.length cv1]) rfl (by kernel_rfl) (by kernel_rfl) (by kernel_rfl) (fun _ _ _ h => h) (Or.inl ⟨by rfl, ?_⟩) (by assumption) ?_
   ·intro wX hSw
    try dsimp only at hSw
    go_simp
    try exact IntWalk.i64_in _ (by omega)
   try simp only [Act.put, List.setIfInBounds_toArray, List.set_cons_zero, List.set_cons_succ]
   refine wpAnyH_ready (rs := [13]) (by kernel_rfl) (by simp) ?_
   refine AllReadyH.cons (o := { dst := some 25, op := Op.buildSlice 33 1 #[(0, Operand.tmp 24)], type := 33, pos := _, after := _, guard := none }) rfl (fun K hK => ?_) AllReadyH.nil
   obtain ⟨Nb, hNb⟩ : ∃ g, g = w6.heap.size := ⟨_, rfl⟩
   obtain ⟨w8, hw8⟩ : ∃ V, w6.alloc (.cells #[.int .i64 (psAt l k).e.t, .int .i64 (psAt l k).e.s, .int .i64 (psAt l k).e.q, .int .i64 (psAt l k).e.d, .int .i64 (psAt l k).e.k, .int .i64 (psAt l k).e.v, .int .i64 (psAt l k).e.g, .slice as1 (psAt l k).b.r.length cs1, .int .i64 (psAt l k).b.q, .int .i64 (psAt l k).b.d, .slice at1 (psAt l k).s.length ct1, .slice av1 (psAt l k).x.length cv1] 67) = V := ⟨_, rfl⟩
   have HW8 : Hid (w6.alloc (.cells #[.int .i64 (psAt l k).e.t, .int .i64 (psAt l k).e.s, .int .i64 (psAt l k).e.q, .int .i64 (psAt l k).e.d, .int .i64 (psAt l k).e.k, .int .i64 (psAt l k).e.v, .int .i64 (psAt l k).e.g, .slice as1 (psAt l k).b.r.length cs1, .int .i64 (psAt l k).b.q, .int .i64 (psAt l k).b.d, .slice at1 (psAt l k).s.length ct1, .slice av1 (psAt l k).x.length cv1] 67) = w8) := hw8
   have HNb : Hid (Nb = w6.heap.size) := hNb
   have hs8 : V0.heap.size ≤ w6.heap.size := B_7.out.size
   have B_9 : Hid (Below V0.heap.size V0 w8) := by (rw [← hw8]; exact B_7.out.alloc B_7.out.size _)
   have X_9 : Hid (Bk w8 Eb 67 #[.int .i64 (psAt l k).e.t, .int .i64 (psAt l k).e.s, .int .i64 (psAt l k).e.q, .int .i64 (psAt l k).e.d, .int .i64 (psAt l k).e.k, .int .i64 (psAt l k).e.v, .int .i64 (psAt l k).e.g, .slice f7 (psAt l k).b.r.length g7, .int .i64 (psAt l k).b.q, .int .i64 (psAt l k).b.d, .slice f10 (psAt l k).s.length g10, .slice f11 (psAt l k).x.length g11]) := by (rw [← hw8]; exact X_7.out.alloc _)
   have S_9 : Hid (w8.ownsRow V0.heap.size 3 1 (.slice as1 (psAt l k).b.r.length cs1) (psAt l k).b.r.length (intCells (psAt l k).b.r)) := by (rw [← hw8]; exact S_7.out.alloc _)
   have T_9 : Hid (w8.ownsRow V0.heap.size 40 7 (.slice at1 (psAt l k).s.length ct1) (psAt l k).s.length (cellsL (psAt l k).s)) := by (rw [← hw8]; exact T_7.out.alloc _)
   have A_9 : Hid (w8.ownsRow V0.heap.size 99 3 (.slice av1 (psAt l k).x.length cv1) (psAt l k).x.length (cellsX (psAt l k).x)) := by (rw [← hw8]; exact A_7.out.alloc _)
   clear B_7 X_7 S_7 T_7 A_7
   have NB_9 : Hid (Bk w8 Nb 67 #[.int .i64 (psAt l k).e.t, .int .i64 (psAt l k).e.s, .int .i64 (psAt l k).e.q, .int .i64 (psAt l k).e.d, .int .i64 (psAt l k).e.k, .int .i64 (psAt l k).e.v, .int .i64 (psAt l k).e.g, .slice as1 (psAt l k).b.r.length cs1, .int .i64 (psAt l k).b.q, .int .i64 (psAt l k).b.d, .slice at1 (psAt l k).s.length ct1, .slice av1 (psAt l k).x.length cv1]) := by (rw [← hw8]; exact hNb ▸ Bk.new w6 _ _)
   have hz8 : Nb < w8.heap.size := NB_9.out.lt
   have hzy8 : w6.heap.size ≤ Nb ∧ Nb ≤ w6.heap.size := by omega
   clear hw8 hNb
   go_simp
   rw [HW8.out, ← HNb.out]
   have Q_9 : Hid (w8.cell? ⟨Eb, 0, none⟩ = some (.int .i64 (psAt l k).e.t) ∧ w8.cell? ⟨Eb, 1, none⟩ = some (.int .i64 (psAt l k).e.s) ∧ w8.cell? ⟨Eb, 2, none⟩ = some (.int .i64 (psAt l k).e.q) ∧ w8.cell? ⟨Eb, 3, none⟩ = some (.int .i64 (psAt l k).e.d) ∧ w8.cell? ⟨Eb, 4, none⟩ = some (.int .i64 (psAt l k).e.k) ∧ w8.cell? ⟨Eb, 5, none⟩ = some (.int .i64 (psAt l k).e.v) ∧ w8.cell? ⟨Eb, 6, none⟩ = some (.int .i64 (psAt l k).e.g) ∧ w8.cell? ⟨Eb, 7, none⟩ = some (.slice f7 (psAt l k).b.r.length g7) ∧ w8.cell? ⟨Eb, 8, none⟩ = some (.int .i64 (psAt l k).b.q) ∧ w8.cell? ⟨Eb, 9, none⟩ = some (.int .i64 (psAt l k).b.d) ∧ w8.cell? ⟨Eb, 10, none⟩ = some (.slice f10 (psAt l k).s.length g10) ∧ w8.cell? ⟨Eb, 11, none⟩ = some (.slice f11 (psAt l k).x.length g11)) := ⟨X_9.out.cell rfl, X_9.out.cell rfl, X_9.out.cell rfl, X_9.out.cell rfl, X_9.out.cell rfl, X_9.out.cell rfl, X_9.out.cell rfl, X_9.out.cell rfl, X_9.out.cell rfl, X_9.out.cell rfl, X_9.out.cell rfl, X_9.out.cell rfl⟩
   refine hK.out _ _ Q_9.out (fun hHeld => ?_)
   clear hK K
   try simp only [Act.put, List.setIfInBounds_toArray, List.set_cons_zero, List.set_cons_succ]
   refine wpAnyH_ready (rs := [14]) (by kernel_rfl) (by simp) ?_
   refine AllReadyH.cons (o := { dst := some 26, op := Op.call { callee := Callee.builtin Builtin.append, args := #[Operand.tmp 12, Operand.tmp 25], argTypes := #[33, 33] }, type := 33, pos := _, after := _, guard := none }) rfl (fun K hK => ?_) AllReadyH.nil
   have hbs10 : V0.heap.size ≤ w8.heap.size := B_9.out.size
   refine step_append_own2 (w := w8) rfl (.tmp 12) (.tmp 25) 33 rfl w.heap.size 67 ip _ 12 144 Try.underlying33 hip hip0 hip1 hip2 rfl (by decide) (.slice ap k cp) k cs rfl (GV.out.below B_9.out).row ⟨Nb, 0, none⟩ 1 1 (pastL (psAt l k) (.slice as1 (psAt l k).b.r.length cs1) (.slice at1 (psAt l k).s.length ct1) (.slice av1 (psAt l k).x.length cv1)) rfl rfl NB_9.out.src (by simp [pastL, Value.oneCell']) (by unfold maxLen; omega) (by omega) (by omega) ?_
   intro vn w10 hown hgrow hnew
   obtain ⟨ap3, cp3, hvn⟩ := owns_slice hown
   subst hvn
   have hgt := grown_turns hgrow
   have h7 : OwnD w8 (fun b => (.slice as1 (psAt l k).b.r.length cs1 : Value).ownBlock = some b) (.slice as1 (psAt l k).b.r.length cs1) (intsD (psAt l k).b.r) := (own_rowF (by rw [intCells_length]; omega) S_9.out).own
   have h10 : OwnD w8 (fun b => (.slice at1 (psAt l k).s.length ct1 : Value).ownBlock = some b) (.slice at1 (psAt l k).s.length ct1) (evsD (psAt l k).s) := (own_rowF (cellsL_length _) T_9.out).own
   have h11 : OwnD w8 (fun b => (.slice av1 (psAt l k).x.length cv1 : Value).ownBlock = some b) (.slice av1 (psAt l k).x.length cv1) (emsD (psAt l k).x) := (own_rowF (cellsX_length _) A_9.out).own
   have HGN : Hid (GrowD w.heap.size 67 w10 (.slice ap3 (k + 1) cp3) 12 (k + 1) (cs ++ pastL (psAt l k) (.slice as1 (psAt l k).b.r.length cs1) (.slice at1 (psAt l k).s.length ct1) (.slice av1 (psAt l k).x.length cv1)) (pastsD_f l) (joinF (k * 12) G (pastK (fun b => (.slice as1 (psAt l k).b.r.length cs1 : Value).ownBlock = some b) (fun b => (.slice at1 (psAt l k).s.length ct1 : Value).ownBlock = some b) (fun b => (.slice av1 (psAt l k).x.length cv1 : Value).ownBlock = some b)))) := GV.out.snocPs B_9.out (by omega) h7 h10 h11 (fun b hb => row_lim S_9.out b hb) (fun b hb => row_lim T_9.out b hb) (fun b hb => row_lim A_9.out b hb) (fun b x y => by have := HLS.out b x; have := HLT.out b y; omega) (fun b x y => by have := HLS.out b x; have := HLA.out b y; omega) (fun b x y => by have := HLT.out b x; have := HLA.out b y; omega) hown hgrow hnew
   have BN : Hid (Below w.heap.size w w10) := (BV.out.trans (B_9.out.mono BV.out.size)).grown hgrow (by omega) (fun b e => (HVE.out b e).2)
   have X_11 : Hid (Bk w10 Eb 67 #[.int .i64 (psAt l k).e.t, .int .i64 (psAt l k).e.s, .int .i64 (psAt l k).e.q, .int .i64 (psAt l k).e.d, .int .i64 (psAt l k).e.k, .int .i64 (psAt l k).e.v, .int .i64 (psAt l k).e.g, .slice f7 (psAt l k).b.r.length g7, .int .i64 (psAt l k).b.q, .int .i64 (psAt l k).b.d, .slice f10 (psAt l k).s.length g10, .slice f11 (psAt l k).x.length g11]) := X_9.out.turns hgt (fun e => by have := HVE.out _ e; omega)
   clear B_9 X_9 S_9 T_9 A_9 NB_9
   clear hown hgrow hnew hgt h7 h10 h11
   have Q_11 : Hid (w10.cell? ⟨Eb, 0, none⟩ = some (.int .i64 (psAt l k).e.t) ∧ w10.cell? ⟨Eb, 1, none⟩ = some (.int .i64 (psAt l k).e.s) ∧ w10.cell? ⟨Eb, 2, none⟩ = some (.int .i64 (psAt l k).e.q) ∧ w10.cell? ⟨Eb, 3, none⟩ = some (.int .i64 (psAt l k).e.d) ∧ w10.cell? ⟨Eb, 4, none⟩ = some (.int .i64 (psAt l k).e.k) ∧ w10.cell? ⟨Eb, 5, none⟩ = some (.int .i64 (psAt l k).e.v) ∧ w10.cell? ⟨Eb, 6, none⟩ = some (.int .i64 (psAt l k).e.g) ∧ w10.cell? ⟨Eb, 7, none⟩ = some (.slice f7 (psAt l k).b.r.length g7) ∧ w10.cell? ⟨Eb, 8, none⟩ = some (.int .i64 (psAt l k).b.q) ∧ w10.cell? ⟨Eb, 9, none⟩ = some (.int .i64 (psAt l k).b.d) ∧ w10.cell? ⟨Eb, 10, none⟩ = some (.slice f10 (psAt l k).s.length g10) ∧ w10.cell? ⟨Eb, 11, none⟩ = some (.slice f11 (psAt l k).x.length g11)) := ⟨X_11.out.cell rfl, X_11.out.cell rfl, X_11.out.cell rfl, X_11.out.cell rfl, X_11.out.cell rfl, X_11.out.cell rfl, X_11.out.cell rfl, X_11.out.cell rfl, X_11.out.cell rfl, X_11.out.cell rfl, X_11.out.cell rfl, X_11.out.cell rfl⟩
   refine hK.out _ _ Q_11.out (fun hHeld => ?_)
   clear hK K
   try simp only [Act.put, List.setIfInBounds_toArray, List.set_cons_zero, List.set_cons_succ]
   refine wpAnyH_take (i := 15) (oi := { dst := some 3, op := Op.assign (Operand.tmp 26), type := 33, pos := _, after := _, guard := none }) (v := .slice ap3 (k + 1) cp3) rfl (by kernel_rfl) (by kernel_rfl) (by kernel_rfl) (fun _ _ _ h => h) (Or.inl ⟨by rfl, ?_⟩) (by assumption) ?_
   ·intro wX hSw
    try dsimp only at hSw
    go_simp
    try exact IntWalk.i64_in _ (by omega)
   try simp only [Act.put, List.setIfInBounds_toArray, List.set_cons_zero, List.set_cons_succ]
   refine wpAnyH_done (by kernel_rfl) ?_ _
   clear hHeld
   go_wp2
   go_roundw
   case rel => exact ⟨k + 1, _, _, _, by omega, rfl, by go_num, HGN.out, BN.out⟩
   case measure => simp [intOf]; omega
  ·obtain rfl : k = l.length := by omega
   clear hlt hk
   go_wp2
   go_ret
   exact ⟨_, rfl, HBr.out, HG.out.ownD.mono (fun b hb => HG.out.blocks_ge hb)⟩
end Go.Proofs.Ytdcnimdhfhbdmaa

/- The program's copy of a part: all of it in memory of its own. -/
namespace Go.Proofs.Ytdcnimdhfhbdmaa
open Go.RowKit
set_option maxRecDepth 100000 in
set_option maxHeartbeats 16000000 in
theorem copyPart_any (x : Value) (p : Pa) (w : World) (hw : p.wt ≤ 1048577) (h : IsPart w x p) :
  Calls Try.prog 39 #[x] w fun r w' => ∃ y, r = .returned y ∧ Below w.heap.size w w' ∧ PartF (fun k => w.heap.size ≤ k ∧ k < w'.heap.size) w' y p := by
 obtain ⟨u1, u4, u5, u6, rfl, d1, d4, d5, d6⟩ := h
 obtain ⟨a1, c1, rfl, _⟩ := IsD.len d1
 obtain ⟨a4, c4, rfl, _⟩ := IsD.len d4
 obtain ⟨a5, c5, rfl, _⟩ := IsD.len d5
 obtain ⟨a6, c6, rfl, _⟩ := IsD.len d6
 have hwt : p.t.length ≤ 1048577 ∧ p.a.length ≤ 1048577 ∧ (pastsD p.p).wt ≤ 1048577 ∧ p.st.r.length ≤ 1048577 := by
  have e0 := ints_wt p.st.r
  have e1 := evs_wt p.t
  have e2 := ints_wt p.a
  unfold Pa.wt at hw
  omega
 obtain ⟨ht9, ha9, hp9, hr9⟩ := hwt
 obtain ⟨W0, hW0⟩ : ∃ W0, (w.alloc (.cells #[.int .i64 p.n, .slice a1 p.st.r.length c1, .int .i64 p.st.q, .int .i64 p.st.d, .slice a4 p.p.length c4, .slice a5 p.t.length c5, .slice a6 p.a.length c6] 36)).alloc (.cells #[.int .i64 0, .slice none 0 0, .int .i64 0, .int .i64 0, .slice none 0 0, .slice none 0 0, .slice none 0 0] 36) = W0 := ⟨_, rfl⟩
 have hz0 : W0.heap.size = w.heap.size + 1 + 1 := by rw [← hW0]; simp
 have hb0 : Below w.heap.size w W0 := hW0 ▸ ((Below.refl _ w).alloc (Nat.le_refl _) _).alloc (by simp) _
 have HBw : Hid (Below w.heap.size w W0) := hb0
 have HW0 : Hid ((w.alloc (.cells #[.int .i64 p.n, .slice a1 p.st.r.length c1, .int .i64 p.st.q, .int .i64 p.st.d, .slice a4 p.p.length c4, .slice a5 p.t.length c5, .slice a6 p.a.length c6] 36)).alloc (.cells #[.int .i64 0, .slice none 0 0, .int .i64 0, .int .i64 0, .slice none 0 0, .slice none 0 0, .slice none 0 0] 36) = W0) := hW0
 have BX : Hid (Bk W0 w.heap.size 36 #[.int .i64 p.n, .slice a1 p.st.r.length c1, .int .i64 p.st.q, .int .i64 p.st.d, .slice a4 p.p.length c4, .slice a5 p.t.length c5, .slice a6 p.a.length c6]) := hW0 ▸ (Bk.new w _ _).alloc _
 have BZ : Hid (Bk W0 (w.heap.size + 1) 36 #[.int .i64 0, .slice none 0 0, .int .i64 0, .int .i64 0, .slice none 0 0, .slice none 0 0, .slice none 0 0]) := hW0 ▸ Bk.newAt (by simp) _ _
 have D1 : Hid (IsD W0 (.slice a1 p.st.r.length c1) (intsD p.st.r)) := d1.under hb0
 have D4 : Hid (IsD W0 (.slice a4 p.p.length c4) (pastsD p.p)) := d4.under hb0
 have D5 : Hid (IsD W0 (.slice a5 p.t.length c5) (evsD p.t)) := d5.under hb0
 have D6 : Hid (IsD W0 (.slice a6 p.a.length c6) (intsD p.a)) := d6.under hb0
 have hz0' : W0.heap.size ≤ w.heap.size + 1 + 1 ∧ w.heap.size + 1 + 1 ≤ W0.heap.size := by omega
 clear hW0 hb0 d1 d4 d5 d6 hw hz0
 go_enter Try.func39, Try.ntmps39
 go_wp2_with fail
 rw [HW0.out]
 clear HW0
 have hzd : W0.drew.heap.size ≤ W0.heap.size ∧ W0.heap.size ≤ W0.drew.heap.size := ⟨Nat.le_refl _, Nat.le_refl _⟩
 have B_0 : Hid (Below W0.heap.size W0 W0.drew) := (Below.refl _ W0).drew
 have X_0 : Hid (Bk W0.drew w.heap.size 36 #[.int .i64 p.n, .slice a1 p.st.r.length c1, .int .i64 p.st.q, .int .i64 p.st.d, .slice a4 p.p.length c4, .slice a5 p.t.length c5, .slice a6 p.a.length c6]) := BX.out.drew
 have Z_0 : Hid (Bk W0.drew (w.heap.size + 1) 36 #[.int .i64 0, .slice none 0 0, .int .i64 0, .int .i64 0, .slice none 0 0, .slice none 0 0, .slice none 0 0]) := BZ.out.drew
 have D1_0 : Hid (IsD W0.drew (.slice a1 p.st.r.length c1) (intsD p.st.r)) := D1.out.under (Below.refl _ W0).drew
 have D4_0 : Hid (IsD W0.drew (.slice a4 p.p.length c4) (pastsD p.p)) := D4.out.under (Below.refl _ W0).drew
 have D5_0 : Hid (IsD W0.drew (.slice a5 p.t.length c5) (evsD p.t)) := D5.out.under (Below.refl _ W0).drew
 have D6_0 : Hid (IsD W0.drew (.slice a6 p.a.length c6) (intsD p.a)) := D6.out.under (Below.refl _ W0).drew
 have Q_0 : Hid (W0.drew.cell? ⟨w.heap.size, 0, none⟩ = some (.int .i64 p.n) ∧ W0.drew.cell? ⟨w.heap.size, 1, none⟩ = some (.slice a1 p.st.r.length c1) ∧ W0.drew.cell? ⟨w.heap.size, 2, none⟩ = some (.int .i64 p.st.q) ∧ W0.drew.cell? ⟨w.heap.size, 3, none⟩ = some (.int .i64 p.st.d) ∧ W0.drew.cell? ⟨w.heap.size, 4, none⟩ = some (.slice a4 p.p.length c4) ∧ W0.drew.cell? ⟨w.heap.size, 5, none⟩ = some (.slice a5 p.t.length c5) ∧ W0.drew.cell? ⟨w.heap.size, 6, none⟩ = some (.slice a6 p.a.length c6)) := ⟨X_0.out.cell rfl, X_0.out.cell rfl, X_0.out.cell rfl, X_0.out.cell rfl, X_0.out.cell rfl, X_0.out.cell rfl, X_0.out.cell rfl⟩
 clear BX BZ D1 D4 D5 D6
 refine wp_region_z 15 (fun W => W.cell? ⟨w.heap.size, 0, none⟩ = some (.int .i64 p.n) ∧ W.cell? ⟨w.heap.size, 1, none⟩ = some (.slice a1 p.st.r.length c1) ∧ W.cell? ⟨w.heap.size, 2, none⟩ = some (.int .i64 p.st.q) ∧ W.cell? ⟨w.heap.size, 3, none⟩ = some (.int .i64 p.st.d) ∧ W.cell? ⟨w.heap.size, 4, none⟩ = some (.slice a4 p.p.length c4) ∧ W.cell? ⟨w.heap.size, 5, none⟩ = some (.slice a5 p.t.length c5) ∧ W.cell? ⟨w.heap.size, 6, none⟩ = some (.slice a6 p.a.length c6)) (by kernel_rfl) Q_0.out (fun hHeld => ?_)
 refine wpAnyZ_take (i := 0) (oi := { dst := some 3, op := Op.fieldAddr 36 (Operand.tmp 1) 0, type := 0, pos := _, after := _, guard := none }) (v := .pointer (some ⟨w.heap.size, 0, none⟩)) 0 [] rfl (by kernel_rfl) (by kernel_rfl) (by kernel_rfl) (by kernel_rfl) (by kernel_rfl) (fun _ _ _ h => h) (Or.inl ⟨by rfl, ?_⟩) (by assumption) ?_
 ·intro wX hSw
  try dsimp only at hSw
  go_simp
  try exact IntWalk.i64_in _ (by omega)
 try simp only [Act.put, List.setIfInBounds_toArray, List.set_cons_zero, List.set_cons_succ]
 refine wpAnyZ_take (i := 1) (oi := { dst := some 4, op := Op.load 3 (Operand.tmp 3), type := 3, pos := _, after := _, guard := none }) (v := .int .i64 p.n) 1 [] rfl (by kernel_rfl) (by kernel_rfl) (by kernel_rfl) (by kernel_rfl) (by kernel_rfl) (fun _ _ _ h => h) (Or.inl ⟨by rfl, ?_⟩) (by assumption) ?_
 ·intro wX hSw
  try dsimp only at hSw
  go_simp
  try exact IntWalk.i64_in _ (by omega)
 try simp only [Act.put, List.setIfInBounds_toArray, List.set_cons_zero, List.set_cons_succ]
 refine wpAnyZ_take (i := 2) (oi := { dst := some 5, op := Op.fieldAddr 36 (Operand.tmp 1) 1, type := 0, pos := _, after := _, guard := none }) (v := .pointer (some ⟨w.heap.size, 1, none⟩)) 2 [] rfl (by kernel_rfl) (by kernel_rfl) (by kernel_rfl) (by kernel_rfl) (by kernel_rfl) (fun _ _ _ h => h) (Or.inl ⟨by rfl, ?_⟩) (by assumption) ?_
 ·intro wX hSw
  try dsimp only at hSw
  go_simp
  try exact IntWalk.i64_in _ (by omega)
 try simp only [Act.put, List.setIfInBounds_toArray, List.set_cons_zero, List.set_cons_succ]
 refine wpAnyZ_take (i := 3) (oi := { dst := some 6, op := Op.load 32 (Operand.tmp 5), type := 32, pos := _, after := _, guard := none }) (v := .agg #[.slice a1 p.st.r.length c1, .int .i64 p.st.q, .int .i64 p.st.d]) 3 [] rfl (by kernel_rfl) (by kernel_rfl) (by kernel_rfl) (by kernel_rfl) (by kernel_rfl) (fun _ _ _ h => h) (Or.inl ⟨by rfl, ?_⟩) (by assumption) ?_
 ·intro wX hSw
  try dsimp only at hSw
  go_simp
  try exact IntWalk.i64_in _ (by omega)
 try simp only [Act.put, List.setIfInBounds_toArray, List.set_cons_zero, List.set_cons_succ]
 refine wpAnyZ_take (i := 5) (oi := { dst := some 8, op := Op.fieldAddr 36 (Operand.tmp 1) 2, type := 0, pos := _, after := _, guard := none }) (v := .pointer (some ⟨w.heap.size, 4, none⟩)) 5 [] rfl (by kernel_rfl) (by kernel_rfl) (by kernel_rfl) (by kernel_rfl) (by kernel_rfl) (fun _ _ _ h => h) (Or.inl ⟨by rfl, ?_⟩) (by assumption) ?_
 ·intro wX hSw
  try dsimp only at hSw
  go_simp
  try exact IntWalk.i64_in _ (by omega)
 try simp only [Act.put, List.setIfInBounds_toArray, List.set_cons_zero, List.set_cons_succ]
 refine wpAnyZ_take (i := 6) (oi := { dst := some 9, op := Op.load 33 (Operand.tmp 8), type := 33, pos := _, after := _, guard := none }) (v := .slice a4 p.p.length c4) 6 [] rfl (by kernel_rfl) (by kernel_rfl) (by kernel_rfl) (by kernel_rfl) (by kernel_rfl) (fun _ _ _ h => h) (Or.inl ⟨by rfl, ?_⟩) (by assumption) ?_
 ·intro wX hSw
  try dsimp only at hSw
  go_simp
  try exact IntWalk.i64_in _ (by omega)
 try simp only [Act.put, List.setIfInBounds_toArray, List.set_cons_zero, List.set_cons_succ]
 refine wpAnyZ_take (i := 8) (oi := { dst := some 11, op := Op.fieldAddr 36 (Operand.tmp 1) 3, type := 0, pos := _, after := _, guard := none }) (v := .pointer (some ⟨w.heap.size, 5, none⟩)) 8 [] rfl (by kernel_rfl) (by kernel_rfl) (by kernel_rfl) (by kernel_rfl) (by kernel_rfl) (fun _ _ _ h => h) (Or.inl ⟨by rfl, ?_⟩) (by assumption) ?_
 ·intro wX hSw
  try dsimp only at hSw
  go_simp
  try exact IntWalk.i64_in _ (by omega)
 try simp only [Act.put, List.setIfInBounds_toArray, List.set_cons_zero, List.set_cons_succ]
 refine wpAnyZ_take (i := 9) (oi := { dst := some 12, op := Op.load 34 (Operand.tmp 11), type := 34, pos := _, after := _, guard := none }) (v := .slice a5 p.t.length c5) 9 [] rfl (by kernel_rfl) (by kernel_rfl) (by kernel_rfl) (by kernel_rfl) (by kernel_rfl) (fun _ _ _ h => h) (Or.inl ⟨by rfl, ?_⟩) (by assumption) ?_
 ·intro wX hSw
  try dsimp only at hSw
  go_simp
  try exact IntWalk.i64_in _ (by omega)
 try simp only [Act.put, List.setIfInBounds_toArray, List.set_cons_zero, List.set_cons_succ]
 refine wpAnyZ_take (i := 11) (oi := { dst := some 14, op := Op.fieldAddr 36 (Operand.tmp 1) 4, type := 0, pos := _, after := _, guard := none }) (v := .pointer (some ⟨w.heap.size, 6, none⟩)) 11 [] rfl (by kernel_rfl) (by kernel_rfl) (by kernel_rfl) (by kernel_rfl) (by kernel_rfl) (fun _ _ _ h => h) (Or.inl ⟨by rfl, ?_⟩) (by assumption) ?_
 ·intro wX hSw
  try dsimp only at hSw
  go_simp
  try exact IntWalk.i64_in _ (by omega)
 try simp only [Act.put, List.setIfInBounds_toArray, List.set_cons_zero, List.set_cons_succ]
 refine wpAnyZ_take (i := 12) (oi := { dst := some 15, op := Op.load 22 (Operand.tmp 14), type := 22, pos := _, after := _, guard := none }) (v := .slice a6 p.a.length c6) 12 [] rfl (by kernel_rfl) (by kernel_rfl) (by kernel_rfl) (by kernel_rfl) (by kernel_rfl) (fun _ _ _ h => h) (Or.inl ⟨by rfl, ?_⟩) (by assumption) ?_
 ·intro wX hSw
  try dsimp only at hSw
  go_simp
  try exact IntWalk.i64_in _ (by omega)
 try simp only [Act.put, List.setIfInBounds_toArray, List.set_cons_zero, List.set_cons_succ]
 refine wpAnyZ_ready (rs := [4]) (by kernel_rfl) (by simp) ?_
 refine AllReadyZ.cons (o := { dst := some 7, op := Op.call { callee := Callee.value (Operand.func 70), args := #[Operand.tmp 6], argTypes := #[32] }, type := 32, pos := _, after := _, guard := none }) rfl (fun K hK => ?_) AllReadyZ.nil
 have hbs1 : W0.heap.size ≤ W0.drew.heap.size := B_0.out.size
 go_simp
 refine (snap_src _ _ p.st W0.drew hr9 rfl D1_0.out).mono ?_
 rintro e w1 ⟨vs1, rfl, hown, hb⟩
 obtain ⟨as1, cs1, hvs⟩ := owns_slice hown
 subst hvs
 have HLS : Hid (∀ k', (.slice as1 p.st.r.length cs1 : Value).ownBlock = some k' → W0.drew.heap.size ≤ k' ∧ k' < w1.heap.size) := row_lim hown
 have hz1 : W0.drew.heap.size ≤ w1.heap.size := hb.size
 have B_2 : Hid (Below W0.heap.size W0 w1) := B_0.out.trans (hb.mono B_0.out.size)
 have X_2 : Hid (Bk w1 w.heap.size 36 #[.int .i64 p.n, .slice a1 p.st.r.length c1, .int .i64 p.st.q, .int .i64 p.st.d, .slice a4 p.p.length c4, .slice a5 p.t.length c5, .slice a6 p.a.length c6]) := X_0.out.below hb
 have Z_2 : Hid (Bk w1 (w.heap.size + 1) 36 #[.int .i64 0, .slice none 0 0, .int .i64 0, .int .i64 0, .slice none 0 0, .slice none 0 0, .slice none 0 0]) := Z_0.out.below hb
 have D4_2 : Hid (IsD w1 (.slice a4 p.p.length c4) (pastsD p.p)) := D4_0.out.under hb
 have D5_2 : Hid (IsD w1 (.slice a5 p.t.length c5) (evsD p.t)) := D5_0.out.under hb
 have D6_2 : Hid (IsD w1 (.slice a6 p.a.length c6) (intsD p.a)) := D6_0.out.under hb
 clear B_0 X_0 Z_0 D1_0 D4_0 D5_0 D6_0
 have S_2 : Hid (w1.ownsRow W0.heap.size 3 1 (.slice as1 p.st.r.length cs1) p.st.r.length (intCells p.st.r)) := owns_mono hown hbs1
 clear hown hb
 have Q_2 : Hid (w1.cell? ⟨w.heap.size, 0, none⟩ = some (.int .i64 p.n) ∧ w1.cell? ⟨w.heap.size, 1, none⟩ = some (.slice a1 p.st.r.length c1) ∧ w1.cell? ⟨w.heap.size, 2, none⟩ = some (.int .i64 p.st.q) ∧ w1.cell? ⟨w.heap.size, 3, none⟩ = some (.int .i64 p.st.d) ∧ w1.cell? ⟨w.heap.size, 4, none⟩ = some (.slice a4 p.p.length c4) ∧ w1.cell? ⟨w.heap.size, 5, none⟩ = some (.slice a5 p.t.length c5) ∧ w1.cell? ⟨w.heap.size, 6, none⟩ = some (.slice a6 p.a.length c6)) := ⟨X_2.out.cell rfl, X_2.out.cell rfl, X_2.out.cell rfl, X_2.out.cell rfl, X_2.out.cell rfl, X_2.out.cell rfl, X_2.out.cell rfl⟩
 refine hK.out _ _ Q_2.out (fun hHeld => ?_)
 clear hK K
 try simp only [Act.put, List.setIfInBounds_toArray, List.set_cons_zero, List.set_cons_succ]
 refine wpAnyZ_ready (rs := [7]) (by kernel_rfl) (by simp) ?_
 refine AllReadyZ.cons (o := { dst := some 10, op := Op.call { callee := Callee.value (Operand.func 38), args := #[Operand.tmp 9], argTypes := #[33] }, type := 33, pos := _, after := _, guard := none }) rfl (fun K hK => ?_) AllReadyZ.nil
 have hbs3 : W0.heap.size ≤ w1.heap.size := B_2.out.size
 go_simp
 refine (copyPasts_any _ p.p w1 hp9 D4_2.out).mono ?_
 rintro e w3 ⟨vs1, rfl, hb, hown⟩
 obtain ⟨ap1, cp1, hvs, _⟩ := OwnD.parts (c := 12) (n := p.p.length) hown
 subst hvs
 have hz3 : w1.heap.size ≤ w3.heap.size := hb.size
 have B_4 : Hid (Below W0.heap.size W0 w3) := B_2.out.trans (hb.mono B_2.out.size)
 have X_4 : Hid (Bk w3 w.heap.size 36 #[.int .i64 p.n, .slice a1 p.st.r.length c1, .int .i64 p.st.q, .int .i64 p.st.d, .slice a4 p.p.length c4, .slice a5 p.t.length c5, .slice a6 p.a.length c6]) := X_2.out.below hb
 have Z_4 : Hid (Bk w3 (w.heap.size + 1) 36 #[.int .i64 0, .slice none 0 0, .int .i64 0, .int .i64 0, .slice none 0 0, .slice none 0 0, .slice none 0 0]) := Z_2.out.below hb
 have D5_4 : Hid (IsD w3 (.slice a5 p.t.length c5) (evsD p.t)) := D5_2.out.under hb
 have D6_4 : Hid (IsD w3 (.slice a6 p.a.length c6) (intsD p.a)) := D6_2.out.under hb
 have S_4 : Hid (w3.ownsRow W0.heap.size 3 1 (.slice as1 p.st.r.length cs1) p.st.r.length (intCells p.st.r)) := owns_turns S_2.out (Turns.of_below hb) (fun _ _ => id)
 clear B_2 X_2 Z_2 D4_2 D5_2 D6_2 S_2
 have P_4 : Hid (OwnD w3 (fun k => w1.heap.size ≤ k ∧ k < w3.heap.size) (.slice ap1 p.p.length cp1) (pastsD p.p)) := hown
 clear hown hb
 have Q_4 : Hid (w3.cell? ⟨w.heap.size, 0, none⟩ = some (.int .i64 p.n) ∧ w3.cell? ⟨w.heap.size, 1, none⟩ = some (.slice a1 p.st.r.length c1) ∧ w3.cell? ⟨w.heap.size, 2, none⟩ = some (.int .i64 p.st.q) ∧ w3.cell? ⟨w.heap.size, 3, none⟩ = some (.int .i64 p.st.d) ∧ w3.cell? ⟨w.heap.size, 4, none⟩ = some (.slice a4 p.p.length c4) ∧ w3.cell? ⟨w.heap.size, 5, none⟩ = some (.slice a5 p.t.length c5) ∧ w3.cell? ⟨w.heap.size, 6, none⟩ = some (.slice a6 p.a.length c6)) := ⟨X_4.out.cell rfl, X_4.out.cell rfl, X_4.out.cell rfl, X_4.out.cell rfl, X_4.out.cell rfl, X_4.out.cell rfl, X_4.out.cell rfl⟩
 refine hK.out _ _ Q_4.out (fun hHeld => ?_)
 clear hK K
 try simp only [Act.put, List.setIfInBounds_toArray, List.set_cons_zero, List.set_cons_succ]
 refine wpAnyZ_ready (rs := [10]) (by kernel_rfl) (by simp) ?_
 refine AllReadyZ.cons (o := { dst := some 13, op := Op.call { callee := Callee.value (Operand.func 71), args := #[Operand.tmp 12], argTypes := #[34] }, type := 34, pos := _, after := _, guard := none }) rfl (fun K hK => ?_) AllReadyZ.nil
 have hbs5 : W0.heap.size ≤ w3.heap.size := B_4.out.size
 go_simp
 refine (copyEv_src _ p.t w3 ht9 D5_4.out.srcEv).mono ?_
 rintro e w5 ⟨vs1, rfl, hown, hb⟩
 obtain ⟨at1, ct1, hvs⟩ := owns_slice hown
 subst hvs
 have HLT : Hid (∀ k', (.slice at1 p.t.length ct1 : Value).ownBlock = some k' → w3.heap.size ≤ k' ∧ k' < w5.heap.size) := row_lim hown
 have hz5 : w3.heap.size ≤ w5.heap.size := hb.size
 have B_6 : Hid (Below W0.heap.size W0 w5) := B_4.out.trans (hb.mono B_4.out.size)
 have X_6 : Hid (Bk w5 w.heap.size 36 #[.int .i64 p.n, .slice a1 p.st.r.length c1, .int .i64 p.st.q, .int .i64 p.st.d, .slice a4 p.p.length c4, .slice a5 p.t.length c5, .slice a6 p.a.length c6]) := X_4.out.below hb
 have Z_6 : Hid (Bk w5 (w.heap.size + 1) 36 #[.int .i64 0, .slice none 0 0, .int .i64 0, .int .i64 0, .slice none 0 0, .slice none 0 0, .slice none 0 0]) := Z_4.out.below hb
 have D6_6 : Hid (IsD w5 (.slice a6 p.a.length c6) (intsD p.a)) := D6_4.out.under hb
 have S_6 : Hid (w5.ownsRow W0.heap.size 3 1 (.slice as1 p.st.r.length cs1) p.st.r.length (intCells p.st.r)) := owns_turns S_4.out (Turns.of_below hb) (fun _ _ => id)
 have P_6 : Hid (OwnD w5 (fun k => w1.heap.size ≤ k ∧ k < w3.heap.size) (.slice ap1 p.p.length cp1) (pastsD p.p)) := P_4.out.under hb
 clear B_4 X_4 Z_4 D5_4 D6_4 S_4 P_4
 have T_6 : Hid (w5.ownsRow W0.heap.size 40 7 (.slice at1 p.t.length ct1) p.t.length (cellsL p.t)) := owns_mono hown hbs5
 clear hown hb
 have Q_6 : Hid (w5.cell? ⟨w.heap.size, 0, none⟩ = some (.int .i64 p.n) ∧ w5.cell? ⟨w.heap.size, 1, none⟩ = some (.slice a1 p.st.r.length c1) ∧ w5.cell? ⟨w.heap.size, 2, none⟩ = some (.int .i64 p.st.q) ∧ w5.cell? ⟨w.heap.size, 3, none⟩ = some (.int .i64 p.st.d) ∧ w5.cell? ⟨w.heap.size, 4, none⟩ = some (.slice a4 p.p.length c4) ∧ w5.cell? ⟨w.heap.size, 5, none⟩ = some (.slice a5 p.t.length c5) ∧ w5.cell? ⟨w.heap.size, 6, none⟩ = some (.slice a6 p.a.length c6)) := ⟨X_6.out.cell rfl, X_6.out.cell rfl, X_6.out.cell rfl, X_6.out.cell rfl, X_6.out.cell rfl, X_6.out.cell rfl, X_6.out.cell rfl⟩
 refine hK.out _ _ Q_6.out (fun hHeld => ?_)
 clear hK K
 try simp only [Act.put, List.setIfInBounds_toArray, List.set_cons_zero, List.set_cons_succ]
 refine wpAnyZ_ready (rs := [13]) (by kernel_rfl) (by simp) ?_
 refine AllReadyZ.cons (o := { dst := some 16, op := Op.call { callee := Callee.value (Operand.func 73), args := #[Operand.tmp 15], argTypes := #[22] }, type := 22, pos := _, after := _, guard := none }) rfl (fun K hK => ?_) AllReadyZ.nil
 have hbs7 : W0.heap.size ≤ w5.heap.size := B_6.out.size
 go_simp
 refine (copyI_src _ p.a w5 ha9 D6_6.out.srcI).mono ?_
 rintro e w7 ⟨vs1, rfl, hown, hb⟩
 obtain ⟨aa1, ca1, hvs⟩ := owns_slice hown
 subst hvs
 have HLA : Hid (∀ k', (.slice aa1 p.a.length ca1 : Value).ownBlock = some k' → w5.heap.size ≤ k' ∧ k' < w7.heap.size) := row_lim hown
 have hz7 : w5.heap.size ≤ w7.heap.size := hb.size
 have B_8 : Hid (Below W0.heap.size W0 w7) := B_6.out.trans (hb.mono B_6.out.size)
 have X_8 : Hid (Bk w7 w.heap.size 36 #[.int .i64 p.n, .slice a1 p.st.r.length c1, .int .i64 p.st.q, .int .i64 p.st.d, .slice a4 p.p.length c4, .slice a5 p.t.length c5, .slice a6 p.a.length c6]) := X_6.out.below hb
 have Z_8 : Hid (Bk w7 (w.heap.size + 1) 36 #[.int .i64 0, .slice none 0 0, .int .i64 0, .int .i64 0, .slice none 0 0, .slice none 0 0, .slice none 0 0]) := Z_6.out.below hb
 have S_8 : Hid (w7.ownsRow W0.heap.size 3 1 (.slice as1 p.st.r.length cs1) p.st.r.length (intCells p.st.r)) := owns_turns S_6.out (Turns.of_below hb) (fun _ _ => id)
 have P_8 : Hid (OwnD w7 (fun k => w1.heap.size ≤ k ∧ k < w3.heap.size) (.slice ap1 p.p.length cp1) (pastsD p.p)) := P_6.out.under hb
 have T_8 : Hid (w7.ownsRow W0.heap.size 40 7 (.slice at1 p.t.length ct1) p.t.length (cellsL p.t)) := owns_turns T_6.out (Turns.of_below hb) (fun _ _ => id)
 clear B_6 X_6 Z_6 D6_6 S_6 P_6 T_6
 have A_8 : Hid (w7.ownsRow W0.heap.size 3 1 (.slice aa1 p.a.length ca1) p.a.length (intCells p.a)) := owns_mono hown hbs7
 clear hown hb
 have Q_8 : Hid (w7.cell? ⟨w.heap.size, 0, none⟩ = some (.int .i64 p.n) ∧ w7.cell? ⟨w.heap.size, 1, none⟩ = some (.slice a1 p.st.r.length c1) ∧ w7.cell? ⟨w.heap.size, 2, none⟩ = some (.int .i64 p.st.q) ∧ w7.cell? ⟨w.heap.size, 3, none⟩ = some (.int .i64 p.st.d) ∧ w7.cell? ⟨w.heap.size, 4, none⟩ = some (.slice a4 p.p.length c4) ∧ w7.cell? ⟨w.heap.size, 5, none⟩ = some (.slice a5 p.t.length c5) ∧ w7.cell? ⟨w.heap.size, 6, none⟩ = some (.slice a6 p.a.length c6)) := ⟨X_8.out.cell rfl, X_8.out.cell rfl, X_8.out.cell rfl, X_8.out.cell rfl, X_8.out.cell rfl, X_8.out.cell rfl, X_8.out.cell rfl⟩
 refine hK.out _ _ Q_8.out (fun hHeld => ?_)
 clear hK K
 try simp only [Act.put, List.setIfInBounds_toArray, List.set_cons_zero, List.set_cons_succ]
 refine wpAnyZ_take (i := 14) (oi := { dst := some 17, op := Op.build 36 #[(0, Operand.tmp 4), (1, Operand.tmp 7), (2, Operand.tmp 10), (3, Operand.tmp 13), (4, Operand.tmp 16)], type := 36, pos := _, after := _, guard := none }) (v := .agg #[.int .i64 p.n, .slice as1 p.st.r.length cs1, .int .i64 p.st.q, .int .i64 p.st.d, .slice ap1 p.p.length cp1, .slice at1 p.t.length ct1, .slice aa1 p.a.length ca1]) 14 [] rfl (by kernel_rfl) (by kernel_rfl) (by kernel_rfl) (by kernel_rfl) (by kernel_rfl) (fun _ _ _ h => h) (Or.inl ⟨by rfl, ?_⟩) (by assumption) ?_
 ·intro wX hSw
  try dsimp only at hSw
  go_simp
  try exact IntWalk.i64_in _ (by omega)
 try simp only [Act.put, List.setIfInBounds_toArray, List.set_cons_zero, List.set_cons_succ]
 refine wpAnyZ_ready (rs := [15]) (by kernel_rfl) (by simp) ?_
 refine AllReadyZ.last (o := { dst := none, op := Op.store 36 (Operand.tmp 2) (Operand.tmp 17), type := 0, pos := _, after := _, guard := none }) rfl (fun K hK => ?_)
 have q0 := Z_8.out.cell (i := 0) rfl
 have q1 := Z_8.out.cell (i := 1) rfl
 have q2 := Z_8.out.cell (i := 2) rfl
 have q3 := Z_8.out.cell (i := 3) rfl
 have q4 := Z_8.out.cell (i := 4) rfl
 have q5 := Z_8.out.cell (i := 5) rfl
 have q6 := Z_8.out.cell (i := 6) rfl
 have qf := Z_8.out.free
 go_simp
 clear qf q0 q1 q2 q3 q4 q5 q6
 refine hK.out _ _ ?_
 clear hK K
 try simp only [Act.put, List.setIfInBounds_toArray, List.set_cons_zero, List.set_cons_succ]
 refine wpAnyZ_done (by kernel_rfl) ?_ _
 obtain ⟨X5, hX5⟩ : ∃ X5, put7s w7 (w.heap.size + 1) (.int .i64 p.n) (.slice as1 p.st.r.length cs1) (.int .i64 p.st.q) (.int .i64 p.st.d) (.slice ap1 p.p.length cp1) (.slice at1 p.t.length ct1) (.slice aa1 p.a.length ca1) = X5 := ⟨_, rfl⟩
 have hP := Z_8.out.put7s (.int .i64 p.n) (.slice as1 p.st.r.length cs1) (.int .i64 p.st.q) (.int .i64 p.st.d) (.slice ap1 p.p.length cp1) (.slice at1 p.t.length ct1) (.slice aa1 p.a.length ca1)
 have ht := put7s_turns w7 (w.heap.size + 1) (.int .i64 p.n) (.slice as1 p.st.r.length cs1) (.int .i64 p.st.q) (.int .i64 p.st.d) (.slice ap1 p.p.length cp1) (.slice at1 p.t.length ct1) (.slice aa1 p.a.length ca1)
 rw [hX5] at hP ht
 unfold put7s at hX5
 rw [hX5]
 clear hX5
 go_wp2
 have t0 := hP.cell (i := 0) rfl
 have t1 := hP.cell (i := 1) rfl
 have t2 := hP.cell (i := 2) rfl
 have t3 := hP.cell (i := 3) rfl
 have t4 := hP.cell (i := 4) rfl
 have t5 := hP.cell (i := 5) rfl
 have t6 := hP.cell (i := 6) rfl
 refine bodyPost_ret (v := .agg #[.int .i64 p.n, .slice as1 p.st.r.length cs1, .int .i64 p.st.q, .int .i64 p.st.d, .slice ap1 p.p.length cp1, .slice at1 p.t.length ct1, .slice aa1 p.a.length ca1]) (by simp [results, Try.results39, go_sem, t0, t1, t2, t3, t4, t5, t6]) rfl ?_
 have hBs := B_8.out.size
 have hts := ht.size
 refine ⟨_, rfl, (HBw.out.trans (B_8.out.mono (by omega))).trans (ht.to_below (fun k e => by omega) (by omega)), (fun b => (.slice as1 p.st.r.length cs1 : Value).ownBlock = some b), (fun k => w1.heap.size ≤ k ∧ k < w3.heap.size), (fun b => (.slice at1 p.t.length ct1 : Value).ownBlock = some b), (fun b => (.slice aa1 p.a.length ca1 : Value).ownBlock = some b), _, _, _, _, rfl, ?_, ?_, ?_, ?_, ?_, ?_, ?_, ?_⟩
 ·exact (own_rowF (by rw [intCells_length]; omega) (owns_turns S_8.out ht (fun b hb e => by have := HLS.out b hb; omega))).own
 ·exact P_8.out.turns ht (fun b hb e => by omega)
 ·exact (own_rowF (cellsL_length _) (owns_turns T_8.out ht (fun b hb e => by have := HLT.out b hb; omega))).own
 ·exact (own_rowF (by rw [intCells_length]; omega) (owns_turns A_8.out ht (fun b hb e => by have := HLA.out b hb; omega))).own
 ·exact fun b hb => ⟨by have := HLS.out b hb; omega, fun e => by have := HLS.out b hb; omega, fun e => by have := HLS.out b hb; have := HLT.out b e; omega, fun e => by have := HLS.out b hb; have := HLA.out b e; omega⟩
 ·exact fun b hb => ⟨by omega, fun e => by have := HLT.out b e; omega, fun e => by have := HLA.out b e; omega⟩
 ·exact fun b hb => ⟨by have := HLT.out b hb; omega, fun e => by have := HLT.out b hb; have := HLA.out b e; omega⟩
 ·exact fun b hb => by have := HLA.out b hb; omega
end Go.Proofs.Ytdcnimdhfhbdmaa

