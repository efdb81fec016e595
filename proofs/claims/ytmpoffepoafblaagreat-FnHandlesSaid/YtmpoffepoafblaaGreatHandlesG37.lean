/- LDh, EHanI, VSame -/
import Derived.Test.YtmpoffepoafblaaGreatHandlesLLBent
import Derived.Test.YtmpoffepoafblaaGreatHandlesLLSt
import Derived.Test.YtmpoffepoafblaaGreatHandlesLQDr
import Derived.Test.YtmpoffepoafblaaGreatHandlesG21
import Derived.Test.YtmpoffepoafblaaGreatHandlesG23
import Derived.Test.YtmpoffepoafblaaGreatHandlesG01
/- What FnHandles draws. -/
namespace Go.Proofs.YtmpoffepoafblaaGreat
open Go.RowKit
abbrev put7s (w : World) (P : Nat) (v0 v1 v2 v3 v4 v5 v6 : Value) : World := ((((((w.setCell ⟨P, 0, none⟩ v0).setCell ⟨P, 1, none⟩ v1).setCell ⟨P, 2, none⟩ v2).setCell ⟨P, 3, none⟩ v3).setCell ⟨P, 4, none⟩ v4).setCell ⟨P, 5, none⟩ v5).setCell ⟨P, 6, none⟩ v6
theorem put7s_turns (w : World) (P : Nat) (v0 v1 v2 v3 v4 v5 v6 : Value) : Turns (fun b => b = P) w (put7s w P v0 v1 v2 v3 v4 v5 v6) :=
  ((((((put1_turns w P 0 v0).trans (put1_turns _ P 1 v1)).trans (put1_turns _ P 2 v2)).trans (put1_turns _ P 3 v3)).trans (put1_turns _ P 4 v4)).trans (put1_turns _ P 5 v5)).trans (put1_turns _ P 6 v6)
theorem Bk.put7s {w : World} {P : Nat} {T : TypeId} {a0 a1 a2 a3 a4 a5 a6 : Value} (h : Bk w P T #[a0, a1, a2, a3, a4, a5, a6]) (v0 v1 v2 v3 v4 v5 v6 : Value) : Bk (put7s w P v0 v1 v2 v3 v4 v5 v6) P T #[v0, v1, v2, v3, v4, v5, v6] := by
  have h0 : Bk (w.setCell ⟨P, 0, none⟩ v0) P T #[v0, a1, a2, a3, a4, a5, a6] := h.put 0 v0
  have h1 : Bk ((w.setCell ⟨P, 0, none⟩ v0).setCell ⟨P, 1, none⟩ v1) P T #[v0, v1, a2, a3, a4, a5, a6] := h0.put 1 v1
  have h2 : Bk (((w.setCell ⟨P, 0, none⟩ v0).setCell ⟨P, 1, none⟩ v1).setCell ⟨P, 2, none⟩ v2) P T #[v0, v1, v2, a3, a4, a5, a6] := h1.put 2 v2
  have h3 : Bk ((((w.setCell ⟨P, 0, none⟩ v0).setCell ⟨P, 1, none⟩ v1).setCell ⟨P, 2, none⟩ v2).setCell ⟨P, 3, none⟩ v3) P T #[v0, v1, v2, v3, a4, a5, a6] := h2.put 3 v3
  have h4 : Bk (((((w.setCell ⟨P, 0, none⟩ v0).setCell ⟨P, 1, none⟩ v1).setCell ⟨P, 2, none⟩ v2).setCell ⟨P, 3, none⟩ v3).setCell ⟨P, 4, none⟩ v4) P T #[v0, v1, v2, v3, v4, a5, a6] := h3.put 4 v4
  have h5 : Bk ((((((w.setCell ⟨P, 0, none⟩ v0).setCell ⟨P, 1, none⟩ v1).setCell ⟨P, 2, none⟩ v2).setCell ⟨P, 3, none⟩ v3).setCell ⟨P, 4, none⟩ v4).setCell ⟨P, 5, none⟩ v5) P T #[v0, v1, v2, v3, v4, v5, a6] := h4.put 5 v5
  have h6 : Bk (((((((w.setCell ⟨P, 0, none⟩ v0).setCell ⟨P, 1, none⟩ v1).setCell ⟨P, 2, none⟩ v2).setCell ⟨P, 3, none⟩ v3).setCell ⟨P, 4, none⟩ v4).setCell ⟨P, 5, none⟩ v5).setCell ⟨P, 6, none⟩ v6) P T #[v0, v1, v2, v3, v4, v5, v6] := h5.put 6 v6
  exact h6
theorem Turns.sub {S S' : Nat → Prop} {w w' : World} (h : Turns S w w') (hS : ∀ k, S k → S' k) : Turns S' w w' := ⟨h.os, h.tape, h.output, h.size, fun k hk hn => h.block k hk (fun e => hn (hS k e))⟩
set_option maxRecDepth 100000 in
set_option maxHeartbeats 32000000 in
theorem drawHan_any (a : Option Addr) (n cap : Nat) (w : World) (hn : n ≤ 281474976710656) (hC : CodeIn w w.heap.size a n) :
    Calls Tryz.prog 23 #[.slice a n cap] w fun r w' => ∃ (m : Md) (xm xd xs : Value) (l : List Int) (s : St) (e : Ev), r = .returned (.tuple #[xm, xd, xs, e.val]) ∧ IsM w' xm m ∧ Tiny m ∧ IsI w' xd l ∧ l.length = 4 ∧ IsS w' xs s ∧ s.r.length ≤ 2 ∧ -1 ≤ s.q ∧ s.q ≤ 99993 ∧ Below w.heap.size w w' := by
  obtain ⟨W0, hW0⟩ : ∃ W0, ((w.alloc (.cells #[.int .i64 0, .int .i64 0, .slice none 0 0, .slice none 0 0, .slice none 0 0, .int .i64 0] 36)).alloc (.cells #[.slice none 0 0, .int .i64 0, .int .i64 0] 48)).alloc (.cells #[.int .i64 0, .int .i64 0, .int .i64 0, .int .i64 0, .int .i64 0, .int .i64 0, .int .i64 0] 50) = W0 := ⟨_, rfl⟩
  have hz0 : W0.heap.size = w.heap.size + 1 + 1 + 1 := by rw [← hW0]; simp
  have R2_W0 : Hid (Bk W0 w.heap.size 36 #[.int .i64 0, .int .i64 0, .slice none 0 0, .slice none 0 0, .slice none 0 0, .int .i64 0]) := hW0 ▸ ((Bk.new w _ _).alloc _).alloc _
  have R4_W0 : Hid (Bk W0 (w.heap.size + 1) 48 #[.slice none 0 0, .int .i64 0, .int .i64 0]) := hW0 ▸ (Bk.newAt (by simp) _ _).alloc _
  have R5_W0 : Hid (Bk W0 (w.heap.size + 1 + 1) 50 #[.int .i64 0, .int .i64 0, .int .i64 0, .int .i64 0, .int .i64 0, .int .i64 0, .int .i64 0]) := hW0 ▸ Bk.newAt (by simp) _ _
  have B_W0 : Hid (Below w.heap.size w W0) := hW0 ▸ (((Below.refl _ w).alloc (Nat.le_refl _) _).alloc (by simp) _).alloc (by simp; omega) _
  have HC : Hid (CodeIn W0 W0.heap.size a n) := (hC.below B_W0.out (Nat.le_refl _)).mono (by omega)
  have HW0 : Hid (((w.alloc (.cells #[.int .i64 0, .int .i64 0, .slice none 0 0, .slice none 0 0, .slice none 0 0, .int .i64 0] 36)).alloc (.cells #[.slice none 0 0, .int .i64 0, .int .i64 0] 48)).alloc (.cells #[.int .i64 0, .int .i64 0, .int .i64 0, .int .i64 0, .int .i64 0, .int .i64 0, .int .i64 0] 50) = W0) := hW0
  clear hW0 hC
  go_enter Tryz.func23, Tryz.ntmps23
  go_wp2_with fail
  rw [HW0.out]
  clear HW0
  refine (new_any a n cap _ hn HC.out).mono ?_
  rintro e w1 ⟨c, rfl, hcw, hC1, hB1⟩
  have hcl : c < w1.heap.size := hC1.lt
  have R2_w1 : Hid (Bk w1 w.heap.size 36 #[.int .i64 0, .int .i64 0, .slice none 0 0, .slice none 0 0, .slice none 0 0, .int .i64 0]) := R2_W0.out.below hB1
  have R4_w1 : Hid (Bk w1 (w.heap.size + 1) 48 #[.slice none 0 0, .int .i64 0, .int .i64 0]) := R4_W0.out.below hB1
  have R5_w1 : Hid (Bk w1 (w.heap.size + 1 + 1) 50 #[.int .i64 0, .int .i64 0, .int .i64 0, .int .i64 0, .int .i64 0, .int .i64 0, .int .i64 0]) := R5_W0.out.below hB1
  have B_w1 : Hid (Below w.heap.size w w1) := B_W0.out.trans (hB1.mono B_W0.out.size)
  clear R2_W0 R4_W0 R5_W0 B_W0
  have C_w1 : Hid (Cur w1 c) := hC1
  clear hC1 hB1 HC
  go_wp2_with fail
  refine (l2bent_any c _ C_w1.out).mono ?_
  rintro e w2 ⟨m, xm, rfl, hM, hTy, hC, hT⟩
  have HM : Hid (MdF (fun k => w1.heap.size ≤ k ∧ k < w2.heap.size) w2 xm m) := hM
  have HTy : Hid (Tiny m) := hTy
  have hz2 : w1.heap.size ≤ w2.heap.size := hT.size
  obtain ⟨A, B, C, vi, vh, vs, hxm, ⟨_, ai, ci, hvi, _⟩, ⟨U, F0, G0, ⟨_, ah, ch, hvh, _⟩, _⟩, ⟨_, ae, ce, hve, _⟩, _⟩ := hM
  subst hvi hvh hve hxm
  clear hTy
  have R2_w2 : Hid (Bk w2 w.heap.size 36 #[.int .i64 0, .int .i64 0, .slice none 0 0, .slice none 0 0, .slice none 0 0, .int .i64 0]) := R2_w1.out.turns hT (by omega)
  have R4_w2 : Hid (Bk w2 (w.heap.size + 1) 48 #[.slice none 0 0, .int .i64 0, .int .i64 0]) := R4_w1.out.turns hT (by omega)
  have R5_w2 : Hid (Bk w2 (w.heap.size + 1 + 1) 50 #[.int .i64 0, .int .i64 0, .int .i64 0, .int .i64 0, .int .i64 0, .int .i64 0, .int .i64 0]) := R5_w1.out.turns hT (by omega)
  have B_w2 : Hid (Below w.heap.size w w2) := B_w1.out.trans (hT.to_below (fun k hk => by omega) B_w1.out.size)
  have C_w2 : Hid (Cur w2 c) := hC
  clear R2_w1 R4_w1 R5_w1 B_w1 C_w1
  clear hT hC
  obtain ⟨Mb, hMb⟩ : ∃ P, P = w2.heap.size := ⟨_, rfl⟩
  obtain ⟨W3, hW3⟩ : ∃ V, w2.alloc (.cells #[.int .i64 m.n, .int .i64 m.s, .slice ai m.i.length ci, .slice ah m.h.length ch, .slice ae m.e.length ce, .int .i64 m.z] 36) = V := ⟨_, rfl⟩
  have HW3 : Hid (w2.alloc (.cells #[.int .i64 m.n, .int .i64 m.s, .slice ai m.i.length ci, .slice ah m.h.length ch, .slice ae m.e.length ce, .int .i64 m.z] 36) = W3) := hW3
  have HMb : Hid (Mb = w2.heap.size) := hMb
  have R2_W3 : Hid (Bk W3 w.heap.size 36 #[.int .i64 0, .int .i64 0, .slice none 0 0, .slice none 0 0, .slice none 0 0, .int .i64 0]) := hW3 ▸ R2_w2.out.alloc _
  have R4_W3 : Hid (Bk W3 (w.heap.size + 1) 48 #[.slice none 0 0, .int .i64 0, .int .i64 0]) := hW3 ▸ R4_w2.out.alloc _
  have R5_W3 : Hid (Bk W3 (w.heap.size + 1 + 1) 50 #[.int .i64 0, .int .i64 0, .int .i64 0, .int .i64 0, .int .i64 0, .int .i64 0, .int .i64 0]) := hW3 ▸ R5_w2.out.alloc _
  have B_W3 : Hid (Below w.heap.size w W3) := hW3 ▸ B_w2.out.alloc B_w2.out.size _
  have C_W3 : Hid (Cur W3 c) := hW3 ▸ C_w2.out.alloc _
  clear R2_w2 R4_w2 R5_w2 B_w2 C_w2
  have M_W3 : Hid (Bk W3 Mb 36 #[.int .i64 m.n, .int .i64 m.s, .slice ai m.i.length ci, .slice ah m.h.length ch, .slice ae m.e.length ce, .int .i64 m.z]) := hW3 ▸ hMb ▸ Bk.new w2 _ _
  have TM_W3 : Hid (Turns (fun k => k = c) w2 W3) := hW3 ▸ (Turns.refl _ w2).alloc _
  have hMb2 : w2.heap.size ≤ Mb := by omega
  have hM3 : Mb < W3.heap.size := M_W3.out.lt
  clear hW3 hMb
  go_wp2_with fail
  rw [HW3.out, ← HMb.out]
  clear HW3 HMb
  refine (l3_any c _ C_W3.out).mono ?_
  rintro e w4 ⟨xd, l, rfl, hl, hO, hC, hT⟩
  have HL : Hid (l.length = 4) := hl
  have HO : Hid (OwnI W3.heap.size w4 xd l) := hO
  have hz4 : W3.heap.size ≤ w4.heap.size := hT.size
  have hc3 : c < W3.heap.size := C_W3.out.lt
  clear hl hO
  have R2_w4 : Hid (Bk w4 w.heap.size 36 #[.int .i64 0, .int .i64 0, .slice none 0 0, .slice none 0 0, .slice none 0 0, .int .i64 0]) := R2_W3.out.turns hT (by omega)
  have R4_w4 : Hid (Bk w4 (w.heap.size + 1) 48 #[.slice none 0 0, .int .i64 0, .int .i64 0]) := R4_W3.out.turns hT (by omega)
  have R5_w4 : Hid (Bk w4 (w.heap.size + 1 + 1) 50 #[.int .i64 0, .int .i64 0, .int .i64 0, .int .i64 0, .int .i64 0, .int .i64 0, .int .i64 0]) := R5_W3.out.turns hT (by omega)
  have B_w4 : Hid (Below w.heap.size w w4) := B_W3.out.trans (hT.to_below (fun k hk => by omega) B_W3.out.size)
  have C_w4 : Hid (Cur w4 c) := hC
  have M_w4 : Hid (Bk w4 Mb 36 #[.int .i64 m.n, .int .i64 m.s, .slice ai m.i.length ci, .slice ah m.h.length ch, .slice ae m.e.length ce, .int .i64 m.z]) := M_W3.out.turns hT (by omega)
  have TM_w4 : Hid (Turns (fun k => k = c) w2 w4) := TM_W3.out.trans hT
  clear R2_W3 R4_W3 R5_W3 B_W3 C_W3 M_W3 TM_W3
  clear hT hC
  have TD_w4 : Hid (Turns (fun k => k = c) w4 w4) := Turns.refl _ w4
  go_wp2_with fail
  refine (l3state_any c _ C_w4.out).mono ?_
  rintro e w5 ⟨s, xs, rfl, hS, hs2, hq0, hq1, hC, hT⟩
  have HS : Hid (LiesS w4.heap.size w5 xs s) := hS
  have HS2 : Hid (s.r.length ≤ 2) := hs2
  have hc4 : c < w4.heap.size := C_w4.out.lt
  have hz5 : w4.heap.size ≤ w5.heap.size := hT.size
  obtain ⟨vr, hxs, ⟨ar, cr, hvr, _⟩⟩ := hS.isS
  subst hvr hxs
  clear hs2 hS
  have R2_w5 : Hid (Bk w5 w.heap.size 36 #[.int .i64 0, .int .i64 0, .slice none 0 0, .slice none 0 0, .slice none 0 0, .int .i64 0]) := R2_w4.out.turns hT (by omega)
  have R4_w5 : Hid (Bk w5 (w.heap.size + 1) 48 #[.slice none 0 0, .int .i64 0, .int .i64 0]) := R4_w4.out.turns hT (by omega)
  have R5_w5 : Hid (Bk w5 (w.heap.size + 1 + 1) 50 #[.int .i64 0, .int .i64 0, .int .i64 0, .int .i64 0, .int .i64 0, .int .i64 0, .int .i64 0]) := R5_w4.out.turns hT (by omega)
  have B_w5 : Hid (Below w.heap.size w w5) := B_w4.out.trans (hT.to_below (fun k hk => by omega) B_w4.out.size)
  have C_w5 : Hid (Cur w5 c) := hC
  have M_w5 : Hid (Bk w5 Mb 36 #[.int .i64 m.n, .int .i64 m.s, .slice ai m.i.length ci, .slice ah m.h.length ch, .slice ae m.e.length ce, .int .i64 m.z]) := M_w4.out.turns hT (by omega)
  have TM_w5 : Hid (Turns (fun k => k = c) w2 w5) := TM_w4.out.trans hT
  have TD_w5 : Hid (Turns (fun k => k = c) w4 w5) := TD_w4.out.trans hT
  clear R2_w4 R4_w4 R5_w4 B_w4 C_w4 M_w4 TM_w4 TD_w4
  clear hT hC
  obtain ⟨Sb, hSb⟩ : ∃ P, P = w5.heap.size := ⟨_, rfl⟩
  obtain ⟨W6, hW6⟩ : ∃ V, w5.alloc (.cells #[.slice ar s.r.length cr, .int .i64 s.q, .int .i64 s.d] 48) = V := ⟨_, rfl⟩
  have HW6 : Hid (w5.alloc (.cells #[.slice ar s.r.length cr, .int .i64 s.q, .int .i64 s.d] 48) = W6) := hW6
  have HSb : Hid (Sb = w5.heap.size) := hSb
  have R2_W6 : Hid (Bk W6 w.heap.size 36 #[.int .i64 0, .int .i64 0, .slice none 0 0, .slice none 0 0, .slice none 0 0, .int .i64 0]) := hW6 ▸ R2_w5.out.alloc _
  have R4_W6 : Hid (Bk W6 (w.heap.size + 1) 48 #[.slice none 0 0, .int .i64 0, .int .i64 0]) := hW6 ▸ R4_w5.out.alloc _
  have R5_W6 : Hid (Bk W6 (w.heap.size + 1 + 1) 50 #[.int .i64 0, .int .i64 0, .int .i64 0, .int .i64 0, .int .i64 0, .int .i64 0, .int .i64 0]) := hW6 ▸ R5_w5.out.alloc _
  have B_W6 : Hid (Below w.heap.size w W6) := hW6 ▸ B_w5.out.alloc B_w5.out.size _
  have C_W6 : Hid (Cur W6 c) := hW6 ▸ C_w5.out.alloc _
  have M_W6 : Hid (Bk W6 Mb 36 #[.int .i64 m.n, .int .i64 m.s, .slice ai m.i.length ci, .slice ah m.h.length ch, .slice ae m.e.length ce, .int .i64 m.z]) := hW6 ▸ M_w5.out.alloc _
  have TM_W6 : Hid (Turns (fun k => k = c) w2 W6) := hW6 ▸ TM_w5.out.alloc _
  have TD_W6 : Hid (Turns (fun k => k = c) w4 W6) := hW6 ▸ TD_w5.out.alloc _
  clear R2_w5 R4_w5 R5_w5 B_w5 C_w5 M_w5 TM_w5 TD_w5
  have S_W6 : Hid (Bk W6 Sb 48 #[.slice ar s.r.length cr, .int .i64 s.q, .int .i64 s.d]) := hW6 ▸ hSb ▸ Bk.new w5 _ _
  have TS_W6 : Hid (Turns (fun k => k = c) w5 W6) := hW6 ▸ (Turns.refl _ w5).alloc _
  have hSb5 : w5.heap.size ≤ Sb := by omega
  clear hW6 hSb
  go_wp2_with fail
  rw [HW6.out, ← HSb.out]
  clear HW6 HSb
  refine (evDraw_any c _ C_W6.out).mono ?_
  rintro r w7 ⟨e, rfl, hC, hT⟩
  have hz7 : W6.heap.size ≤ w7.heap.size := hT.size
  have hc6 : c < W6.heap.size := C_W6.out.lt
  have hS6 : Sb < W6.heap.size := S_W6.out.lt
  have R2_w7 : Hid (Bk w7 w.heap.size 36 #[.int .i64 0, .int .i64 0, .slice none 0 0, .slice none 0 0, .slice none 0 0, .int .i64 0]) := R2_W6.out.turns hT (by omega)
  have R4_w7 : Hid (Bk w7 (w.heap.size + 1) 48 #[.slice none 0 0, .int .i64 0, .int .i64 0]) := R4_W6.out.turns hT (by omega)
  have R5_w7 : Hid (Bk w7 (w.heap.size + 1 + 1) 50 #[.int .i64 0, .int .i64 0, .int .i64 0, .int .i64 0, .int .i64 0, .int .i64 0, .int .i64 0]) := R5_W6.out.turns hT (by omega)
  have B_w7 : Hid (Below w.heap.size w w7) := B_W6.out.trans (hT.to_below (fun k hk => by omega) B_W6.out.size)
  have C_w7 : Hid (Cur w7 c) := hC
  have M_w7 : Hid (Bk w7 Mb 36 #[.int .i64 m.n, .int .i64 m.s, .slice ai m.i.length ci, .slice ah m.h.length ch, .slice ae m.e.length ce, .int .i64 m.z]) := M_W6.out.turns hT (by omega)
  have TM_w7 : Hid (Turns (fun k => k = c) w2 w7) := TM_W6.out.trans hT
  have TD_w7 : Hid (Turns (fun k => k = c) w4 w7) := TD_W6.out.trans hT
  have S_w7 : Hid (Bk w7 Sb 48 #[.slice ar s.r.length cr, .int .i64 s.q, .int .i64 s.d]) := S_W6.out.turns hT (by omega)
  have TS_w7 : Hid (Turns (fun k => k = c) w5 w7) := TS_W6.out.trans hT
  clear R2_W6 R4_W6 R5_W6 B_W6 C_W6 M_W6 TM_W6 TD_W6 S_W6 TS_W6
  clear hT hC
  obtain ⟨et, es, eq, ed, ek, ev, eg⟩ := e
  obtain ⟨Eb, hEb⟩ : ∃ P, P = w7.heap.size := ⟨_, rfl⟩
  obtain ⟨W8, hW8⟩ : ∃ V, w7.alloc (.cells #[.int .i64 et, .int .i64 es, .int .i64 eq, .int .i64 ed, .int .i64 ek, .int .i64 ev, .int .i64 eg] 50) = V := ⟨_, rfl⟩
  have HW8 : Hid (w7.alloc (.cells #[.int .i64 et, .int .i64 es, .int .i64 eq, .int .i64 ed, .int .i64 ek, .int .i64 ev, .int .i64 eg] 50) = W8) := hW8
  have HEb : Hid (Eb = w7.heap.size) := hEb
  have R2_W8 : Hid (Bk W8 w.heap.size 36 #[.int .i64 0, .int .i64 0, .slice none 0 0, .slice none 0 0, .slice none 0 0, .int .i64 0]) := hW8 ▸ R2_w7.out.alloc _
  have R4_W8 : Hid (Bk W8 (w.heap.size + 1) 48 #[.slice none 0 0, .int .i64 0, .int .i64 0]) := hW8 ▸ R4_w7.out.alloc _
  have R5_W8 : Hid (Bk W8 (w.heap.size + 1 + 1) 50 #[.int .i64 0, .int .i64 0, .int .i64 0, .int .i64 0, .int .i64 0, .int .i64 0, .int .i64 0]) := hW8 ▸ R5_w7.out.alloc _
  have B_W8 : Hid (Below w.heap.size w W8) := hW8 ▸ B_w7.out.alloc B_w7.out.size _
  have C_W8 : Hid (Cur W8 c) := hW8 ▸ C_w7.out.alloc _
  have M_W8 : Hid (Bk W8 Mb 36 #[.int .i64 m.n, .int .i64 m.s, .slice ai m.i.length ci, .slice ah m.h.length ch, .slice ae m.e.length ce, .int .i64 m.z]) := hW8 ▸ M_w7.out.alloc _
  have TM_W8 : Hid (Turns (fun k => k = c) w2 W8) := hW8 ▸ TM_w7.out.alloc _
  have TD_W8 : Hid (Turns (fun k => k = c) w4 W8) := hW8 ▸ TD_w7.out.alloc _
  have S_W8 : Hid (Bk W8 Sb 48 #[.slice ar s.r.length cr, .int .i64 s.q, .int .i64 s.d]) := hW8 ▸ S_w7.out.alloc _
  have TS_W8 : Hid (Turns (fun k => k = c) w5 W8) := hW8 ▸ TS_w7.out.alloc _
  clear R2_w7 R4_w7 R5_w7 B_w7 C_w7 M_w7 TM_w7 TD_w7 S_w7 TS_w7
  have E_W8 : Hid (Bk W8 Eb 50 #[.int .i64 et, .int .i64 es, .int .i64 eq, .int .i64 ed, .int .i64 ek, .int .i64 ev, .int .i64 eg]) := hW8 ▸ hEb ▸ Bk.new w7 _ _
  have hEb7 : w7.heap.size ≤ Eb := by omega
  clear hW8 hEb
  go_wp2_with fail
  rw [HW8.out, ← HEb.out]
  clear HW8 HEb
  refine (below_any c _ _ C_W8.out).mono ?_
  rintro e w9 ⟨x, rfl, x0, x1, hC, hT⟩
  clear x0 x1
  have hE8 : Eb < W8.heap.size := E_W8.out.lt
  have hME : Mb < Eb := by omega
  have hSE : Sb < Eb := by omega
  have hcE : c < Eb := by omega
  have R2_w9 : Hid (Bk w9 w.heap.size 36 #[.int .i64 0, .int .i64 0, .slice none 0 0, .slice none 0 0, .slice none 0 0, .int .i64 0]) := R2_W8.out.turns hT (by omega)
  have R4_w9 : Hid (Bk w9 (w.heap.size + 1) 48 #[.slice none 0 0, .int .i64 0, .int .i64 0]) := R4_W8.out.turns hT (by omega)
  have R5_w9 : Hid (Bk w9 (w.heap.size + 1 + 1) 50 #[.int .i64 0, .int .i64 0, .int .i64 0, .int .i64 0, .int .i64 0, .int .i64 0, .int .i64 0]) := R5_W8.out.turns hT (by omega)
  have B_w9 : Hid (Below w.heap.size w w9) := B_W8.out.trans (hT.to_below (fun k hk => by omega) B_W8.out.size)
  have C_w9 : Hid (Cur w9 c) := hC
  have M_w9 : Hid (Bk w9 Mb 36 #[.int .i64 m.n, .int .i64 m.s, .slice ai m.i.length ci, .slice ah m.h.length ch, .slice ae m.e.length ce, .int .i64 m.z]) := M_W8.out.turns hT (by omega)
  have TM_w9 : Hid (Turns (fun k => k = c) w2 w9) := TM_W8.out.trans hT
  have TD_w9 : Hid (Turns (fun k => k = c) w4 w9) := TD_W8.out.trans hT
  have S_w9 : Hid (Bk w9 Sb 48 #[.slice ar s.r.length cr, .int .i64 s.q, .int .i64 s.d]) := S_W8.out.turns hT (by omega)
  have TS_w9 : Hid (Turns (fun k => k = c) w5 w9) := TS_W8.out.trans hT
  have E_w9 : Hid (Bk w9 Eb 50 #[.int .i64 et, .int .i64 es, .int .i64 eq, .int .i64 ed, .int .i64 ek, .int .i64 ev, .int .i64 eg]) := E_W8.out.turns hT (by omega)
  clear R2_W8 R4_W8 R5_W8 B_W8 C_W8 M_W8 TM_W8 TD_W8 S_W8 TS_W8 E_W8
  clear hT hC
  have g0 := E_w9.out.cell (i := 0) rfl
  have gf := E_w9.out.free
  obtain ⟨W10, hW10⟩ : ∃ V, ((w9.setCell ⟨Eb, 0, none⟩ (.int .i64 x)).setCell ⟨Eb, 3, none⟩ (.int .i64 0)).setCell ⟨Eb, 4, none⟩ (.int .i64 0) = V := ⟨_, rfl⟩
  have HW10 : Hid (((w9.setCell ⟨Eb, 0, none⟩ (.int .i64 x)).setCell ⟨Eb, 3, none⟩ (.int .i64 0)).setCell ⟨Eb, 4, none⟩ (.int .i64 0) = W10) := hW10
  have hE1 := E_w9.out.put 0 (.int .i64 x)
  have hE2 := hE1.put 3 (.int .i64 0)
  have hE3 := hE2.put 4 (.int .i64 0)
  have ht0 : Turns (fun b => b = Eb) w9 W10 := hW10 ▸ ((put1_turns w9 Eb 0 _).trans (put1_turns _ Eb 3 _)).trans (put1_turns _ Eb 4 _)
  have f1 := hE1.cell (i := 3) rfl
  have f2 := hE2.cell (i := 4) rfl
  have f1f := hE1.free
  have f2f := hE2.free
  have R2_W10 : Hid (Bk W10 w.heap.size 36 #[.int .i64 0, .int .i64 0, .slice none 0 0, .slice none 0 0, .slice none 0 0, .int .i64 0]) := R2_w9.out.turns ht0 (by omega)
  have R4_W10 : Hid (Bk W10 (w.heap.size + 1) 48 #[.slice none 0 0, .int .i64 0, .int .i64 0]) := R4_w9.out.turns ht0 (by omega)
  have R5_W10 : Hid (Bk W10 (w.heap.size + 1 + 1) 50 #[.int .i64 0, .int .i64 0, .int .i64 0, .int .i64 0, .int .i64 0, .int .i64 0, .int .i64 0]) := R5_w9.out.turns ht0 (by omega)
  have B_W10 : Hid (Below w.heap.size w W10) := B_w9.out.trans (ht0.to_below (fun k hk => by have := B_w9.out.size; omega) B_w9.out.size)
  have C_W10 : Hid (Cur W10 c) := C_w9.out.turns ht0 (fun j hj => by omega)
  have M_W10 : Hid (Bk W10 Mb 36 #[.int .i64 m.n, .int .i64 m.s, .slice ai m.i.length ci, .slice ah m.h.length ch, .slice ae m.e.length ce, .int .i64 m.z]) := M_w9.out.turns ht0 (by omega)
  have TM_W10 : Hid (Turns (fun k => k = c) w2 W10) := TM_w9.out.trans' ht0 (by omega)
  have TD_W10 : Hid (Turns (fun k => k = c) w4 W10) := TD_w9.out.trans' ht0 (by omega)
  have S_W10 : Hid (Bk W10 Sb 48 #[.slice ar s.r.length cr, .int .i64 s.q, .int .i64 s.d]) := S_w9.out.turns ht0 (by omega)
  have TS_W10 : Hid (Turns (fun k => k = c) w5 W10) := TS_w9.out.trans' ht0 (by omega)
  have E_W10 : Hid (Bk W10 Eb 50 #[.int .i64 x, .int .i64 es, .int .i64 eq, .int .i64 0, .int .i64 0, .int .i64 ev, .int .i64 eg]) := hW10 ▸ hE3
  clear R2_w9 R4_w9 R5_w9 B_w9 C_w9 M_w9 TM_w9 TD_w9 S_w9 TS_w9 E_w9 hW10 hE1 hE2 hE3 ht0
  go_wp2_with fail
  clear g0 gf f1 f2 f1f f2f
  rw [HW10.out]
  clear HW10
  refine (once_any c _ _ C_W10.out).mono ?_
  rintro e w11 ⟨b, rfl, hC, hT⟩
  have R2_w11 : Hid (Bk w11 w.heap.size 36 #[.int .i64 0, .int .i64 0, .slice none 0 0, .slice none 0 0, .slice none 0 0, .int .i64 0]) := R2_W10.out.turns hT (by omega)
  have R4_w11 : Hid (Bk w11 (w.heap.size + 1) 48 #[.slice none 0 0, .int .i64 0, .int .i64 0]) := R4_W10.out.turns hT (by omega)
  have R5_w11 : Hid (Bk w11 (w.heap.size + 1 + 1) 50 #[.int .i64 0, .int .i64 0, .int .i64 0, .int .i64 0, .int .i64 0, .int .i64 0, .int .i64 0]) := R5_W10.out.turns hT (by omega)
  have B_w11 : Hid (Below w.heap.size w w11) := B_W10.out.trans (hT.to_below (fun k hk => by omega) B_W10.out.size)
  have C_w11 : Hid (Cur w11 c) := hC
  have M_w11 : Hid (Bk w11 Mb 36 #[.int .i64 m.n, .int .i64 m.s, .slice ai m.i.length ci, .slice ah m.h.length ch, .slice ae m.e.length ce, .int .i64 m.z]) := M_W10.out.turns hT (by omega)
  have TM_w11 : Hid (Turns (fun k => k = c) w2 w11) := TM_W10.out.trans hT
  have TD_w11 : Hid (Turns (fun k => k = c) w4 w11) := TD_W10.out.trans hT
  have S_w11 : Hid (Bk w11 Sb 48 #[.slice ar s.r.length cr, .int .i64 s.q, .int .i64 s.d]) := S_W10.out.turns hT (by omega)
  have TS_w11 : Hid (Turns (fun k => k = c) w5 w11) := TS_W10.out.trans hT
  have E_w11 : Hid (Bk w11 Eb 50 #[.int .i64 x, .int .i64 es, .int .i64 eq, .int .i64 0, .int .i64 0, .int .i64 ev, .int .i64 eg]) := E_W10.out.turns hT (by omega)
  clear R2_W10 R4_W10 R5_W10 B_W10 C_W10 M_W10 TM_W10 TD_W10 S_W10 TS_W10 E_W10
  clear hT hC
  cases b with
  | false =>
    have HQ : Hid (w11.drew.cell? ⟨Mb, 0, none⟩ = some (.int .i64 m.n) ∧ w11.drew.cell? ⟨Mb, 1, none⟩ = some (.int .i64 m.s) ∧ w11.drew.cell? ⟨Mb, 2, none⟩ = some (.slice ai m.i.length ci) ∧ w11.drew.cell? ⟨Mb, 3, none⟩ = some (.slice ah m.h.length ch) ∧ w11.drew.cell? ⟨Mb, 4, none⟩ = some (.slice ae m.e.length ce) ∧ w11.drew.cell? ⟨Mb, 5, none⟩ = some (.int .i64 m.z) ∧ w11.drew.cell? ⟨Sb, 0, none⟩ = some (.slice ar s.r.length cr) ∧ w11.drew.cell? ⟨Sb, 1, none⟩ = some (.int .i64 s.q) ∧ w11.drew.cell? ⟨Sb, 2, none⟩ = some (.int .i64 s.d) ∧ w11.drew.cell? ⟨Eb, 0, none⟩ = some (.int .i64 x) ∧ w11.drew.cell? ⟨Eb, 1, none⟩ = some (.int .i64 es) ∧ w11.drew.cell? ⟨Eb, 2, none⟩ = some (.int .i64 eq) ∧ w11.drew.cell? ⟨Eb, 3, none⟩ = some (.int .i64 0) ∧ w11.drew.cell? ⟨Eb, 4, none⟩ = some (.int .i64 0) ∧ w11.drew.cell? ⟨Eb, 5, none⟩ = some (.int .i64 ev) ∧ w11.drew.cell? ⟨Eb, 6, none⟩ = some (.int .i64 eg)) := ⟨M_w11.out.drew.cell rfl, M_w11.out.drew.cell rfl, M_w11.out.drew.cell rfl, M_w11.out.drew.cell rfl, M_w11.out.drew.cell rfl, M_w11.out.drew.cell rfl, S_w11.out.drew.cell rfl, S_w11.out.drew.cell rfl, S_w11.out.drew.cell rfl, E_w11.out.drew.cell rfl, E_w11.out.drew.cell rfl, E_w11.out.drew.cell rfl, E_w11.out.drew.cell rfl, E_w11.out.drew.cell rfl, E_w11.out.drew.cell rfl, E_w11.out.drew.cell rfl⟩
    obtain ⟨X1, hX1⟩ : ∃ X, (put6 w11 w.heap.size (.int .i64 m.n) (.int .i64 m.s) (.slice ai m.i.length ci) (.slice ah m.h.length ch) (.slice ae m.e.length ce) (.int .i64 m.z)).drew = X := ⟨_, rfl⟩
    have h1 := (R2_w11.out.put6 (.int .i64 m.n) (.int .i64 m.s) (.slice ai m.i.length ci) (.slice ah m.h.length ch) (.slice ae m.e.length ce) (.int .i64 m.z)).drew
    have t1 := (put6_turns w11 w.heap.size (.int .i64 m.n) (.int .i64 m.s) (.slice ai m.i.length ci) (.slice ah m.h.length ch) (.slice ae m.e.length ce) (.int .i64 m.z)).drew
    rw [hX1] at h1 t1
    obtain ⟨X2, hX2⟩ : ∃ X, put3s X1 (w.heap.size + 1) (.slice ar s.r.length cr) (.int .i64 s.q) (.int .i64 s.d) = X := ⟨_, rfl⟩
    have r4 := R4_w11.out.turns t1 (by omega)
    have h2 := r4.put3s (.slice ar s.r.length cr) (.int .i64 s.q) (.int .i64 s.d)
    have t2 := put3s_turns X1 (w.heap.size + 1) (.slice ar s.r.length cr) (.int .i64 s.q) (.int .i64 s.d)
    rw [hX2] at h2 t2
    obtain ⟨X3, hX3⟩ : ∃ X, put7s X2 (w.heap.size + 1 + 1) (.int .i64 x) (.int .i64 es) (.int .i64 eq) (.int .i64 0) (.int .i64 0) (.int .i64 ev) (.int .i64 eg) = X := ⟨_, rfl⟩
    have r5 := (R5_w11.out.turns t1 (by omega)).turns t2 (by omega)
    have h3 := r5.put7s (.int .i64 x) (.int .i64 es) (.int .i64 eq) (.int .i64 0) (.int .i64 0) (.int .i64 ev) (.int .i64 eg)
    have t3 := put7s_turns X2 (w.heap.size + 1 + 1) (.int .i64 x) (.int .i64 es) (.int .i64 eq) (.int .i64 0) (.int .i64 0) (.int .i64 ev) (.int .i64 eg)
    rw [hX3] at h3 t3
    have m1 := M_w11.out.turns t1 (by omega)
    have s1 := S_w11.out.turns t1 (by omega)
    have e1 := E_w11.out.turns t1 (by omega)
    have m2 := m1.turns t2 (by omega)
    have s2 := s1.turns t2 (by omega)
    have e2 := e1.turns t2 (by omega)
    have m3 := m2.turns t3 (by omega)
    have s3 := s2.turns t3 (by omega)
    have e3 := e2.turns t3 (by omega)
    have HQ1 : Hid (X1.cell? ⟨Mb, 0, none⟩ = some (.int .i64 m.n) ∧ X1.cell? ⟨Mb, 1, none⟩ = some (.int .i64 m.s) ∧ X1.cell? ⟨Mb, 2, none⟩ = some (.slice ai m.i.length ci) ∧ X1.cell? ⟨Mb, 3, none⟩ = some (.slice ah m.h.length ch) ∧ X1.cell? ⟨Mb, 4, none⟩ = some (.slice ae m.e.length ce) ∧ X1.cell? ⟨Mb, 5, none⟩ = some (.int .i64 m.z) ∧ X1.cell? ⟨Sb, 0, none⟩ = some (.slice ar s.r.length cr) ∧ X1.cell? ⟨Sb, 1, none⟩ = some (.int .i64 s.q) ∧ X1.cell? ⟨Sb, 2, none⟩ = some (.int .i64 s.d) ∧ X1.cell? ⟨Eb, 0, none⟩ = some (.int .i64 x) ∧ X1.cell? ⟨Eb, 1, none⟩ = some (.int .i64 es) ∧ X1.cell? ⟨Eb, 2, none⟩ = some (.int .i64 eq) ∧ X1.cell? ⟨Eb, 3, none⟩ = some (.int .i64 0) ∧ X1.cell? ⟨Eb, 4, none⟩ = some (.int .i64 0) ∧ X1.cell? ⟨Eb, 5, none⟩ = some (.int .i64 ev) ∧ X1.cell? ⟨Eb, 6, none⟩ = some (.int .i64 eg)) := ⟨m1.cell rfl, m1.cell rfl, m1.cell rfl, m1.cell rfl, m1.cell rfl, m1.cell rfl, s1.cell rfl, s1.cell rfl, s1.cell rfl, e1.cell rfl, e1.cell rfl, e1.cell rfl, e1.cell rfl, e1.cell rfl, e1.cell rfl, e1.cell rfl⟩
    have HQ2 : Hid (X2.cell? ⟨Mb, 0, none⟩ = some (.int .i64 m.n) ∧ X2.cell? ⟨Mb, 1, none⟩ = some (.int .i64 m.s) ∧ X2.cell? ⟨Mb, 2, none⟩ = some (.slice ai m.i.length ci) ∧ X2.cell? ⟨Mb, 3, none⟩ = some (.slice ah m.h.length ch) ∧ X2.cell? ⟨Mb, 4, none⟩ = some (.slice ae m.e.length ce) ∧ X2.cell? ⟨Mb, 5, none⟩ = some (.int .i64 m.z) ∧ X2.cell? ⟨Sb, 0, none⟩ = some (.slice ar s.r.length cr) ∧ X2.cell? ⟨Sb, 1, none⟩ = some (.int .i64 s.q) ∧ X2.cell? ⟨Sb, 2, none⟩ = some (.int .i64 s.d) ∧ X2.cell? ⟨Eb, 0, none⟩ = some (.int .i64 x) ∧ X2.cell? ⟨Eb, 1, none⟩ = some (.int .i64 es) ∧ X2.cell? ⟨Eb, 2, none⟩ = some (.int .i64 eq) ∧ X2.cell? ⟨Eb, 3, none⟩ = some (.int .i64 0) ∧ X2.cell? ⟨Eb, 4, none⟩ = some (.int .i64 0) ∧ X2.cell? ⟨Eb, 5, none⟩ = some (.int .i64 ev) ∧ X2.cell? ⟨Eb, 6, none⟩ = some (.int .i64 eg)) := ⟨m2.cell rfl, m2.cell rfl, m2.cell rfl, m2.cell rfl, m2.cell rfl, m2.cell rfl, s2.cell rfl, s2.cell rfl, s2.cell rfl, e2.cell rfl, e2.cell rfl, e2.cell rfl, e2.cell rfl, e2.cell rfl, e2.cell rfl, e2.cell rfl⟩
    have HQ3 : Hid (X3.cell? ⟨Mb, 0, none⟩ = some (.int .i64 m.n) ∧ X3.cell? ⟨Mb, 1, none⟩ = some (.int .i64 m.s) ∧ X3.cell? ⟨Mb, 2, none⟩ = some (.slice ai m.i.length ci) ∧ X3.cell? ⟨Mb, 3, none⟩ = some (.slice ah m.h.length ch) ∧ X3.cell? ⟨Mb, 4, none⟩ = some (.slice ae m.e.length ce) ∧ X3.cell? ⟨Mb, 5, none⟩ = some (.int .i64 m.z) ∧ X3.cell? ⟨Sb, 0, none⟩ = some (.slice ar s.r.length cr) ∧ X3.cell? ⟨Sb, 1, none⟩ = some (.int .i64 s.q) ∧ X3.cell? ⟨Sb, 2, none⟩ = some (.int .i64 s.d) ∧ X3.cell? ⟨Eb, 0, none⟩ = some (.int .i64 x) ∧ X3.cell? ⟨Eb, 1, none⟩ = some (.int .i64 es) ∧ X3.cell? ⟨Eb, 2, none⟩ = some (.int .i64 eq) ∧ X3.cell? ⟨Eb, 3, none⟩ = some (.int .i64 0) ∧ X3.cell? ⟨Eb, 4, none⟩ = some (.int .i64 0) ∧ X3.cell? ⟨Eb, 5, none⟩ = some (.int .i64 ev) ∧ X3.cell? ⟨Eb, 6, none⟩ = some (.int .i64 eg)) := ⟨m3.cell rfl, m3.cell rfl, m3.cell rfl, m3.cell rfl, m3.cell rfl, m3.cell rfl, s3.cell rfl, s3.cell rfl, s3.cell rfl, e3.cell rfl, e3.cell rfl, e3.cell rfl, e3.cell rfl, e3.cell rfl, e3.cell rfl, e3.cell rfl⟩
    have HX1 := hX1
    have HX2 := hX2
    have HX3 := hX3
    unfold put6 at HX1
    unfold put3s at HX2
    unfold put7s at HX3
    have HY1 : Hid _ := HX1
    have HY2 : Hid _ := HX2
    have HY3 : Hid _ := HX3
    clear hX1 hX2 hX3 HX1 HX2 HX3 m1 s1 e1 m2 s2 e2 m3 s3 e3
    have HP1 : Hid (Bk X1 w.heap.size 36 #[.int .i64 m.n, .int .i64 m.s, .slice ai m.i.length ci, .slice ah m.h.length ch, .slice ae m.e.length ce, .int .i64 m.z]) := h1
    have HP2 : Hid (Bk X2 (w.heap.size + 1) 48 #[.slice ar s.r.length cr, .int .i64 s.q, .int .i64 s.d]) := h2
    have HP3 : Hid (Bk X3 (w.heap.size + 1 + 1) 50 #[.int .i64 x, .int .i64 es, .int .i64 eq, .int .i64 0, .int .i64 0, .int .i64 ev, .int .i64 eg]) := h3
    have HT1 : Hid (Turns (fun b => b = w.heap.size) w11 X1) := t1
    have HT2 : Hid (Turns (fun b => b = w.heap.size + 1) X1 X2) := t2
    have HT3 : Hid (Turns (fun b => b = w.heap.size + 1 + 1) X2 X3) := t3
    have HR4 : Hid (Bk X1 (w.heap.size + 1) 48 #[.slice none 0 0, .int .i64 0, .int .i64 0]) := r4
    have HR5 : Hid (Bk X2 (w.heap.size + 1 + 1) 50 #[.int .i64 0, .int .i64 0, .int .i64 0, .int .i64 0, .int .i64 0, .int .i64 0, .int .i64 0]) := r5
    clear h1 h2 h3 t1 t2 t3 r4 r5
    go_wp2_with fail
    refine wp_region_held_drew (S := fun W => W.cell? ⟨Mb, 0, none⟩ = some (.int .i64 m.n) ∧ W.cell? ⟨Mb, 1, none⟩ = some (.int .i64 m.s) ∧ W.cell? ⟨Mb, 2, none⟩ = some (.slice ai m.i.length ci) ∧ W.cell? ⟨Mb, 3, none⟩ = some (.slice ah m.h.length ch) ∧ W.cell? ⟨Mb, 4, none⟩ = some (.slice ae m.e.length ce) ∧ W.cell? ⟨Mb, 5, none⟩ = some (.int .i64 m.z) ∧ W.cell? ⟨Sb, 0, none⟩ = some (.slice ar s.r.length cr) ∧ W.cell? ⟨Sb, 1, none⟩ = some (.int .i64 s.q) ∧ W.cell? ⟨Sb, 2, none⟩ = some (.int .i64 s.d) ∧ W.cell? ⟨Eb, 0, none⟩ = some (.int .i64 x) ∧ W.cell? ⟨Eb, 1, none⟩ = some (.int .i64 es) ∧ W.cell? ⟨Eb, 2, none⟩ = some (.int .i64 eq) ∧ W.cell? ⟨Eb, 3, none⟩ = some (.int .i64 0) ∧ W.cell? ⟨Eb, 4, none⟩ = some (.int .i64 0) ∧ W.cell? ⟨Eb, 5, none⟩ = some (.int .i64 ev) ∧ W.cell? ⟨Eb, 6, none⟩ = some (.int .i64 eg)) (by kernel_rfl) HQ.out (fun hHeld => ?_)
    refine wpAnyH_take (i := 0) (oi := { dst := some 30, op := Op.load 36 (Operand.tmp 7), type := 36, pos := _, after := _, guard := none }) (v := .agg #[.int .i64 m.n, .int .i64 m.s, .slice ai m.i.length ci, .slice ah m.h.length ch, .slice ae m.e.length ce, .int .i64 m.z]) rfl (by kernel_rfl) (by kernel_rfl) (by kernel_rfl) (fun _ _ _ h => h) (Or.inl ⟨by rfl, ?_⟩) (by assumption) ?_
    · intro wX hSw
      try dsimp only at hSw
      go_simp
    try simp only [Act.put, List.setIfInBounds_toArray, List.set_cons_zero, List.set_cons_succ]
    refine wpAnyH_take (i := 1) (oi := { dst := some 31, op := Op.move (Operand.tmp 8), type := 22, pos := _, after := _, guard := none }) (v := xd) rfl (by kernel_rfl) (by kernel_rfl) (by kernel_rfl) (fun _ _ _ h => h) (Or.inl ⟨by rfl, ?_⟩) (by assumption) ?_
    · intro wX hSw
      try dsimp only at hSw
      go_simp
    try simp only [Act.put, List.setIfInBounds_toArray, List.set_cons_zero, List.set_cons_succ]
    refine wpAnyH_take (i := 2) (oi := { dst := some 32, op := Op.load 48 (Operand.tmp 9), type := 48, pos := _, after := _, guard := none }) (v := .agg #[.slice ar s.r.length cr, .int .i64 s.q, .int .i64 s.d]) rfl (by kernel_rfl) (by kernel_rfl) (by kernel_rfl) (fun _ _ _ h => h) (Or.inl ⟨by rfl, ?_⟩) (by assumption) ?_
    · intro wX hSw
      try dsimp only at hSw
      go_simp
    try simp only [Act.put, List.setIfInBounds_toArray, List.set_cons_zero, List.set_cons_succ]
    refine wpAnyH_take (i := 3) (oi := { dst := some 33, op := Op.load 50 (Operand.tmp 10), type := 50, pos := _, after := _, guard := none }) (v := .agg #[.int .i64 x, .int .i64 es, .int .i64 eq, .int .i64 0, .int .i64 0, .int .i64 ev, .int .i64 eg]) rfl (by kernel_rfl) (by kernel_rfl) (by kernel_rfl) (fun _ _ _ h => h) (Or.inl ⟨by rfl, ?_⟩) (by assumption) ?_
    · intro wX hSw
      try dsimp only at hSw
      go_simp
    try simp only [Act.put, List.setIfInBounds_toArray, List.set_cons_zero, List.set_cons_succ]
    refine wpAnyH_ready (rs := [4]) (by kernel_rfl) (by simp) ?_
    refine AllReadyH.cons (o := { dst := none, op := Op.store 36 (Operand.tmp 2) (Operand.tmp 30), type := 0, pos := _, after := _, guard := none }) rfl (fun K hK => ?_) AllReadyH.nil
    have q0 := R2_w11.out.cell (i := 0) rfl
    have q1 := R2_w11.out.cell (i := 1) rfl
    have q2 := R2_w11.out.cell (i := 2) rfl
    have q3 := R2_w11.out.cell (i := 3) rfl
    have q4 := R2_w11.out.cell (i := 4) rfl
    have q5 := R2_w11.out.cell (i := 5) rfl
    have qf := R2_w11.out.free
    go_simp
    clear qf q0 q1 q2 q3 q4 q5
    rw [HY1.out]
    refine hK.out _ _ HQ1.out (fun hHeld => ?_)
    clear hK K
    try simp only [Act.put, List.setIfInBounds_toArray, List.set_cons_zero, List.set_cons_succ]
    refine wpAnyH_take (i := 5) (oi := { dst := some 3, op := Op.assign (Operand.tmp 31), type := 22, pos := _, after := _, guard := none }) (v := xd) rfl (by kernel_rfl) (by kernel_rfl) (by kernel_rfl) (fun _ _ _ h => h) (Or.inl ⟨by rfl, ?_⟩) (by assumption) ?_
    · intro wX hSw
      try dsimp only at hSw
      go_simp
    try simp only [Act.put, List.setIfInBounds_toArray, List.set_cons_zero, List.set_cons_succ]
    refine wpAnyH_ready (rs := [6]) (by kernel_rfl) (by simp) ?_
    refine AllReadyH.cons (o := { dst := none, op := Op.store 48 (Operand.tmp 4) (Operand.tmp 32), type := 0, pos := _, after := _, guard := none }) rfl (fun K hK => ?_) AllReadyH.nil
    have q0 := HR4.out.cell (i := 0) rfl
    have q1 := HR4.out.cell (i := 1) rfl
    have q2 := HR4.out.cell (i := 2) rfl
    have qf := HR4.out.free
    go_simp
    clear qf q0 q1 q2
    rw [HY2.out]
    refine hK.out _ _ HQ2.out (fun hHeld => ?_)
    clear hK K
    try simp only [Act.put, List.setIfInBounds_toArray, List.set_cons_zero, List.set_cons_succ]
    refine wpAnyH_ready (rs := [7]) (by kernel_rfl) (by simp) ?_
    refine AllReadyH.cons (o := { dst := none, op := Op.store 50 (Operand.tmp 5) (Operand.tmp 33), type := 0, pos := _, after := _, guard := none }) rfl (fun K hK => ?_) AllReadyH.nil
    have q0 := HR5.out.cell (i := 0) rfl
    have q1 := HR5.out.cell (i := 1) rfl
    have q2 := HR5.out.cell (i := 2) rfl
    have q3 := HR5.out.cell (i := 3) rfl
    have q4 := HR5.out.cell (i := 4) rfl
    have q5 := HR5.out.cell (i := 5) rfl
    have q6 := HR5.out.cell (i := 6) rfl
    have qf := HR5.out.free
    go_simp
    clear qf q0 q1 q2 q3 q4 q5 q6
    rw [HY3.out]
    refine hK.out _ _ HQ3.out (fun hHeld => ?_)
    clear hK K
    try simp only [Act.put, List.setIfInBounds_toArray, List.set_cons_zero, List.set_cons_succ]
    refine wpAnyH_done (by kernel_rfl) ?_ _
    clear hHeld
    go_wp2
    have p1 := (HP1.out.turns HT2.out (by omega)).turns HT3.out (by omega)
    have p2 := HP2.out.turns HT3.out (by omega)
    have p3 := HP3.out
    have a0 := p1.cell (i := 0) rfl
    have a1 := p1.cell (i := 1) rfl
    have a2 := p1.cell (i := 2) rfl
    have a3 := p1.cell (i := 3) rfl
    have a4 := p1.cell (i := 4) rfl
    have a5 := p1.cell (i := 5) rfl
    have b0 := p2.cell (i := 0) rfl
    have b1 := p2.cell (i := 1) rfl
    have b2 := p2.cell (i := 2) rfl
    have c0 := p3.cell (i := 0) rfl
    have c1 := p3.cell (i := 1) rfl
    have c2 := p3.cell (i := 2) rfl
    have c3 := p3.cell (i := 3) rfl
    have c4 := p3.cell (i := 4) rfl
    have c5 := p3.cell (i := 5) rfl
    have c6 := p3.cell (i := 6) rfl
    have hT : Turns (fun k => k = w.heap.size ∨ k = w.heap.size + 1 ∨ k = w.heap.size + 1 + 1) w11 X3 := ((HT1.out.sub (fun k e => .inl e)).trans (HT2.out.sub (fun k e => .inr (.inl e)))).trans (HT3.out.sub (fun k e => .inr (.inr e)))
    refine bodyPost_ret (v := .tuple #[.agg #[.int .i64 m.n, .int .i64 m.s, .slice ai m.i.length ci, .slice ah m.h.length ch, .slice ae m.e.length ce, .int .i64 m.z], xd, .agg #[.slice ar s.r.length cr, .int .i64 s.q, .int .i64 s.d], .agg #[.int .i64 x, .int .i64 es, .int .i64 eq, .int .i64 0, .int .i64 0, .int .i64 ev, .int .i64 eg]]) (by simp [results, Tryz.results23, go_sem, a0, a1, a2, a3, a4, a5, b0, b1, b2, c0, c1, c2, c3, c4, c5, c6]) rfl ?_
    refine ⟨m, _, xd, _, l, s, ⟨x, es, eq, 0, 0, ev, eg⟩, rfl, ?_, HTy.out, ?_, HL.out, ?_, HS2.out, hq0, hq1, B_w11.out.trans (hT.to_below (fun k e => by omega) B_w11.out.size)⟩
    · exact ((HM.out.turns TM_w11.out (fun k hk e => by have := hk.1; omega)).turns hT (fun k hk e => by have := hk.1; omega)).isM
    · have hx := (HO.out.turns TD_w11.out (by omega))
      exact (((hx.turns HT1.out (by omega)).turns HT2.out (by omega)).turns HT3.out (by omega)).isI
    · obtain ⟨G, hG1, hG2, hG⟩ := HS.out
      exact hG (fun k => k = c ∨ k = w.heap.size ∨ k = w.heap.size + 1 ∨ k = w.heap.size + 1 + 1) X3 ((TS_w11.out.sub (fun k e => .inl e)).trans (hT.sub (fun k e => .inr e))) (by omega)
  | true =>
    go_wp2_with fail
    refine (evBent_any c _ C_w11.out).mono ?_
    rintro r w12 ⟨e, rfl, hC, hT⟩
    obtain ⟨ft, fs, fq, fd, fk, fv, fg⟩ := e
    have R2_w12 : Hid (Bk w12 w.heap.size 36 #[.int .i64 0, .int .i64 0, .slice none 0 0, .slice none 0 0, .slice none 0 0, .int .i64 0]) := R2_w11.out.turns hT (by omega)
    have R4_w12 : Hid (Bk w12 (w.heap.size + 1) 48 #[.slice none 0 0, .int .i64 0, .int .i64 0]) := R4_w11.out.turns hT (by omega)
    have R5_w12 : Hid (Bk w12 (w.heap.size + 1 + 1) 50 #[.int .i64 0, .int .i64 0, .int .i64 0, .int .i64 0, .int .i64 0, .int .i64 0, .int .i64 0]) := R5_w11.out.turns hT (by omega)
    have B_w12 : Hid (Below w.heap.size w w12) := B_w11.out.trans (hT.to_below (fun k hk => by omega) B_w11.out.size)
    have C_w12 : Hid (Cur w12 c) := hC
    have M_w12 : Hid (Bk w12 Mb 36 #[.int .i64 m.n, .int .i64 m.s, .slice ai m.i.length ci, .slice ah m.h.length ch, .slice ae m.e.length ce, .int .i64 m.z]) := M_w11.out.turns hT (by omega)
    have TM_w12 : Hid (Turns (fun k => k = c) w2 w12) := TM_w11.out.trans hT
    have TD_w12 : Hid (Turns (fun k => k = c) w4 w12) := TD_w11.out.trans hT
    have S_w12 : Hid (Bk w12 Sb 48 #[.slice ar s.r.length cr, .int .i64 s.q, .int .i64 s.d]) := S_w11.out.turns hT (by omega)
    have TS_w12 : Hid (Turns (fun k => k = c) w5 w12) := TS_w11.out.trans hT
    have E_w12 : Hid (Bk w12 Eb 50 #[.int .i64 x, .int .i64 es, .int .i64 eq, .int .i64 0, .int .i64 0, .int .i64 ev, .int .i64 eg]) := E_w11.out.turns hT (by omega)
    clear R2_w11 R4_w11 R5_w11 B_w11 C_w11 M_w11 TM_w11 TD_w11 S_w11 TS_w11 E_w11
    clear hT hC
    have g0 := E_w12.out.cell (i := 0) rfl
    have g1 := E_w12.out.cell (i := 1) rfl
    have g2 := E_w12.out.cell (i := 2) rfl
    have g3 := E_w12.out.cell (i := 3) rfl
    have g4 := E_w12.out.cell (i := 4) rfl
    have g5 := E_w12.out.cell (i := 5) rfl
    have g6 := E_w12.out.cell (i := 6) rfl
    have gf := E_w12.out.free
    obtain ⟨W13, hW13⟩ : ∃ V, put7s w12 Eb (.int .i64 ft) (.int .i64 fs) (.int .i64 fq) (.int .i64 fd) (.int .i64 fk) (.int .i64 fv) (.int .i64 fg) = V := ⟨_, rfl⟩
    have hE3 := E_w12.out.put7s (.int .i64 ft) (.int .i64 fs) (.int .i64 fq) (.int .i64 fd) (.int .i64 fk) (.int .i64 fv) (.int .i64 fg)
    have ht0 := put7s_turns w12 Eb (.int .i64 ft) (.int .i64 fs) (.int .i64 fq) (.int .i64 fd) (.int .i64 fk) (.int .i64 fv) (.int .i64 fg)
    rw [hW13] at hE3 ht0
    unfold put7s at hW13
    have HW13 : Hid _ := hW13
    have R2_W13 : Hid (Bk W13 w.heap.size 36 #[.int .i64 0, .int .i64 0, .slice none 0 0, .slice none 0 0, .slice none 0 0, .int .i64 0]) := R2_w12.out.turns ht0 (by omega)
    have R4_W13 : Hid (Bk W13 (w.heap.size + 1) 48 #[.slice none 0 0, .int .i64 0, .int .i64 0]) := R4_w12.out.turns ht0 (by omega)
    have R5_W13 : Hid (Bk W13 (w.heap.size + 1 + 1) 50 #[.int .i64 0, .int .i64 0, .int .i64 0, .int .i64 0, .int .i64 0, .int .i64 0, .int .i64 0]) := R5_w12.out.turns ht0 (by omega)
    have B_W13 : Hid (Below w.heap.size w W13) := B_w12.out.trans (ht0.to_below (fun k hk => by have := B_w12.out.size; omega) B_w12.out.size)
    have C_W13 : Hid (Cur W13 c) := C_w12.out.turns ht0 (fun j hj => by omega)
    have M_W13 : Hid (Bk W13 Mb 36 #[.int .i64 m.n, .int .i64 m.s, .slice ai m.i.length ci, .slice ah m.h.length ch, .slice ae m.e.length ce, .int .i64 m.z]) := M_w12.out.turns ht0 (by omega)
    have TM_W13 : Hid (Turns (fun k => k = c) w2 W13) := TM_w12.out.trans' ht0 (by omega)
    have TD_W13 : Hid (Turns (fun k => k = c) w4 W13) := TD_w12.out.trans' ht0 (by omega)
    have S_W13 : Hid (Bk W13 Sb 48 #[.slice ar s.r.length cr, .int .i64 s.q, .int .i64 s.d]) := S_w12.out.turns ht0 (by omega)
    have TS_W13 : Hid (Turns (fun k => k = c) w5 W13) := TS_w12.out.trans' ht0 (by omega)
    have E_W13 : Hid (Bk W13 Eb 50 #[.int .i64 ft, .int .i64 fs, .int .i64 fq, .int .i64 fd, .int .i64 fk, .int .i64 fv, .int .i64 fg]) := hE3
    clear R2_w12 R4_w12 R5_w12 B_w12 C_w12 M_w12 TM_w12 TD_w12 S_w12 TS_w12 E_w12 hW13 hE3 ht0
    have HQ : Hid (W13.drew.cell? ⟨Mb, 0, none⟩ = some (.int .i64 m.n) ∧ W13.drew.cell? ⟨Mb, 1, none⟩ = some (.int .i64 m.s) ∧ W13.drew.cell? ⟨Mb, 2, none⟩ = some (.slice ai m.i.length ci) ∧ W13.drew.cell? ⟨Mb, 3, none⟩ = some (.slice ah m.h.length ch) ∧ W13.drew.cell? ⟨Mb, 4, none⟩ = some (.slice ae m.e.length ce) ∧ W13.drew.cell? ⟨Mb, 5, none⟩ = some (.int .i64 m.z) ∧ W13.drew.cell? ⟨Sb, 0, none⟩ = some (.slice ar s.r.length cr) ∧ W13.drew.cell? ⟨Sb, 1, none⟩ = some (.int .i64 s.q) ∧ W13.drew.cell? ⟨Sb, 2, none⟩ = some (.int .i64 s.d) ∧ W13.drew.cell? ⟨Eb, 0, none⟩ = some (.int .i64 ft) ∧ W13.drew.cell? ⟨Eb, 1, none⟩ = some (.int .i64 fs) ∧ W13.drew.cell? ⟨Eb, 2, none⟩ = some (.int .i64 fq) ∧ W13.drew.cell? ⟨Eb, 3, none⟩ = some (.int .i64 fd) ∧ W13.drew.cell? ⟨Eb, 4, none⟩ = some (.int .i64 fk) ∧ W13.drew.cell? ⟨Eb, 5, none⟩ = some (.int .i64 fv) ∧ W13.drew.cell? ⟨Eb, 6, none⟩ = some (.int .i64 fg)) := ⟨M_W13.out.drew.cell rfl, M_W13.out.drew.cell rfl, M_W13.out.drew.cell rfl, M_W13.out.drew.cell rfl, M_W13.out.drew.cell rfl, M_W13.out.drew.cell rfl, S_W13.out.drew.cell rfl, S_W13.out.drew.cell rfl, S_W13.out.drew.cell rfl, E_W13.out.drew.cell rfl, E_W13.out.drew.cell rfl, E_W13.out.drew.cell rfl, E_W13.out.drew.cell rfl, E_W13.out.drew.cell rfl, E_W13.out.drew.cell rfl, E_W13.out.drew.cell rfl⟩
    obtain ⟨X1, hX1⟩ : ∃ X, (put6 W13 w.heap.size (.int .i64 m.n) (.int .i64 m.s) (.slice ai m.i.length ci) (.slice ah m.h.length ch) (.slice ae m.e.length ce) (.int .i64 m.z)).drew = X := ⟨_, rfl⟩
    have h1 := (R2_W13.out.put6 (.int .i64 m.n) (.int .i64 m.s) (.slice ai m.i.length ci) (.slice ah m.h.length ch) (.slice ae m.e.length ce) (.int .i64 m.z)).drew
    have t1 := (put6_turns W13 w.heap.size (.int .i64 m.n) (.int .i64 m.s) (.slice ai m.i.length ci) (.slice ah m.h.length ch) (.slice ae m.e.length ce) (.int .i64 m.z)).drew
    rw [hX1] at h1 t1
    obtain ⟨X2, hX2⟩ : ∃ X, put3s X1 (w.heap.size + 1) (.slice ar s.r.length cr) (.int .i64 s.q) (.int .i64 s.d) = X := ⟨_, rfl⟩
    have r4 := R4_W13.out.turns t1 (by omega)
    have h2 := r4.put3s (.slice ar s.r.length cr) (.int .i64 s.q) (.int .i64 s.d)
    have t2 := put3s_turns X1 (w.heap.size + 1) (.slice ar s.r.length cr) (.int .i64 s.q) (.int .i64 s.d)
    rw [hX2] at h2 t2
    obtain ⟨X3, hX3⟩ : ∃ X, put7s X2 (w.heap.size + 1 + 1) (.int .i64 ft) (.int .i64 fs) (.int .i64 fq) (.int .i64 fd) (.int .i64 fk) (.int .i64 fv) (.int .i64 fg) = X := ⟨_, rfl⟩
    have r5 := (R5_W13.out.turns t1 (by omega)).turns t2 (by omega)
    have h3 := r5.put7s (.int .i64 ft) (.int .i64 fs) (.int .i64 fq) (.int .i64 fd) (.int .i64 fk) (.int .i64 fv) (.int .i64 fg)
    have t3 := put7s_turns X2 (w.heap.size + 1 + 1) (.int .i64 ft) (.int .i64 fs) (.int .i64 fq) (.int .i64 fd) (.int .i64 fk) (.int .i64 fv) (.int .i64 fg)
    rw [hX3] at h3 t3
    have m1 := M_W13.out.turns t1 (by omega)
    have s1 := S_W13.out.turns t1 (by omega)
    have e1 := E_W13.out.turns t1 (by omega)
    have m2 := m1.turns t2 (by omega)
    have s2 := s1.turns t2 (by omega)
    have e2 := e1.turns t2 (by omega)
    have m3 := m2.turns t3 (by omega)
    have s3 := s2.turns t3 (by omega)
    have e3 := e2.turns t3 (by omega)
    have HQ1 : Hid (X1.cell? ⟨Mb, 0, none⟩ = some (.int .i64 m.n) ∧ X1.cell? ⟨Mb, 1, none⟩ = some (.int .i64 m.s) ∧ X1.cell? ⟨Mb, 2, none⟩ = some (.slice ai m.i.length ci) ∧ X1.cell? ⟨Mb, 3, none⟩ = some (.slice ah m.h.length ch) ∧ X1.cell? ⟨Mb, 4, none⟩ = some (.slice ae m.e.length ce) ∧ X1.cell? ⟨Mb, 5, none⟩ = some (.int .i64 m.z) ∧ X1.cell? ⟨Sb, 0, none⟩ = some (.slice ar s.r.length cr) ∧ X1.cell? ⟨Sb, 1, none⟩ = some (.int .i64 s.q) ∧ X1.cell? ⟨Sb, 2, none⟩ = some (.int .i64 s.d) ∧ X1.cell? ⟨Eb, 0, none⟩ = some (.int .i64 ft) ∧ X1.cell? ⟨Eb, 1, none⟩ = some (.int .i64 fs) ∧ X1.cell? ⟨Eb, 2, none⟩ = some (.int .i64 fq) ∧ X1.cell? ⟨Eb, 3, none⟩ = some (.int .i64 fd) ∧ X1.cell? ⟨Eb, 4, none⟩ = some (.int .i64 fk) ∧ X1.cell? ⟨Eb, 5, none⟩ = some (.int .i64 fv) ∧ X1.cell? ⟨Eb, 6, none⟩ = some (.int .i64 fg)) := ⟨m1.cell rfl, m1.cell rfl, m1.cell rfl, m1.cell rfl, m1.cell rfl, m1.cell rfl, s1.cell rfl, s1.cell rfl, s1.cell rfl, e1.cell rfl, e1.cell rfl, e1.cell rfl, e1.cell rfl, e1.cell rfl, e1.cell rfl, e1.cell rfl⟩
    have HQ2 : Hid (X2.cell? ⟨Mb, 0, none⟩ = some (.int .i64 m.n) ∧ X2.cell? ⟨Mb, 1, none⟩ = some (.int .i64 m.s) ∧ X2.cell? ⟨Mb, 2, none⟩ = some (.slice ai m.i.length ci) ∧ X2.cell? ⟨Mb, 3, none⟩ = some (.slice ah m.h.length ch) ∧ X2.cell? ⟨Mb, 4, none⟩ = some (.slice ae m.e.length ce) ∧ X2.cell? ⟨Mb, 5, none⟩ = some (.int .i64 m.z) ∧ X2.cell? ⟨Sb, 0, none⟩ = some (.slice ar s.r.length cr) ∧ X2.cell? ⟨Sb, 1, none⟩ = some (.int .i64 s.q) ∧ X2.cell? ⟨Sb, 2, none⟩ = some (.int .i64 s.d) ∧ X2.cell? ⟨Eb, 0, none⟩ = some (.int .i64 ft) ∧ X2.cell? ⟨Eb, 1, none⟩ = some (.int .i64 fs) ∧ X2.cell? ⟨Eb, 2, none⟩ = some (.int .i64 fq) ∧ X2.cell? ⟨Eb, 3, none⟩ = some (.int .i64 fd) ∧ X2.cell? ⟨Eb, 4, none⟩ = some (.int .i64 fk) ∧ X2.cell? ⟨Eb, 5, none⟩ = some (.int .i64 fv) ∧ X2.cell? ⟨Eb, 6, none⟩ = some (.int .i64 fg)) := ⟨m2.cell rfl, m2.cell rfl, m2.cell rfl, m2.cell rfl, m2.cell rfl, m2.cell rfl, s2.cell rfl, s2.cell rfl, s2.cell rfl, e2.cell rfl, e2.cell rfl, e2.cell rfl, e2.cell rfl, e2.cell rfl, e2.cell rfl, e2.cell rfl⟩
    have HQ3 : Hid (X3.cell? ⟨Mb, 0, none⟩ = some (.int .i64 m.n) ∧ X3.cell? ⟨Mb, 1, none⟩ = some (.int .i64 m.s) ∧ X3.cell? ⟨Mb, 2, none⟩ = some (.slice ai m.i.length ci) ∧ X3.cell? ⟨Mb, 3, none⟩ = some (.slice ah m.h.length ch) ∧ X3.cell? ⟨Mb, 4, none⟩ = some (.slice ae m.e.length ce) ∧ X3.cell? ⟨Mb, 5, none⟩ = some (.int .i64 m.z) ∧ X3.cell? ⟨Sb, 0, none⟩ = some (.slice ar s.r.length cr) ∧ X3.cell? ⟨Sb, 1, none⟩ = some (.int .i64 s.q) ∧ X3.cell? ⟨Sb, 2, none⟩ = some (.int .i64 s.d) ∧ X3.cell? ⟨Eb, 0, none⟩ = some (.int .i64 ft) ∧ X3.cell? ⟨Eb, 1, none⟩ = some (.int .i64 fs) ∧ X3.cell? ⟨Eb, 2, none⟩ = some (.int .i64 fq) ∧ X3.cell? ⟨Eb, 3, none⟩ = some (.int .i64 fd) ∧ X3.cell? ⟨Eb, 4, none⟩ = some (.int .i64 fk) ∧ X3.cell? ⟨Eb, 5, none⟩ = some (.int .i64 fv) ∧ X3.cell? ⟨Eb, 6, none⟩ = some (.int .i64 fg)) := ⟨m3.cell rfl, m3.cell rfl, m3.cell rfl, m3.cell rfl, m3.cell rfl, m3.cell rfl, s3.cell rfl, s3.cell rfl, s3.cell rfl, e3.cell rfl, e3.cell rfl, e3.cell rfl, e3.cell rfl, e3.cell rfl, e3.cell rfl, e3.cell rfl⟩
    have HX1 := hX1
    have HX2 := hX2
    have HX3 := hX3
    unfold put6 at HX1
    unfold put3s at HX2
    unfold put7s at HX3
    have HY1 : Hid _ := HX1
    have HY2 : Hid _ := HX2
    have HY3 : Hid _ := HX3
    clear hX1 hX2 hX3 HX1 HX2 HX3 m1 s1 e1 m2 s2 e2 m3 s3 e3
    have HP1 : Hid (Bk X1 w.heap.size 36 #[.int .i64 m.n, .int .i64 m.s, .slice ai m.i.length ci, .slice ah m.h.length ch, .slice ae m.e.length ce, .int .i64 m.z]) := h1
    have HP2 : Hid (Bk X2 (w.heap.size + 1) 48 #[.slice ar s.r.length cr, .int .i64 s.q, .int .i64 s.d]) := h2
    have HP3 : Hid (Bk X3 (w.heap.size + 1 + 1) 50 #[.int .i64 ft, .int .i64 fs, .int .i64 fq, .int .i64 fd, .int .i64 fk, .int .i64 fv, .int .i64 fg]) := h3
    have HT1 : Hid (Turns (fun b => b = w.heap.size) W13 X1) := t1
    have HT2 : Hid (Turns (fun b => b = w.heap.size + 1) X1 X2) := t2
    have HT3 : Hid (Turns (fun b => b = w.heap.size + 1 + 1) X2 X3) := t3
    have HR4 : Hid (Bk X1 (w.heap.size + 1) 48 #[.slice none 0 0, .int .i64 0, .int .i64 0]) := r4
    have HR5 : Hid (Bk X2 (w.heap.size + 1 + 1) 50 #[.int .i64 0, .int .i64 0, .int .i64 0, .int .i64 0, .int .i64 0, .int .i64 0, .int .i64 0]) := r5
    clear h1 h2 h3 t1 t2 t3 r4 r5
    go_wp2_with fail
    rw [HW13.out]
    clear HW13 gf g0 g1 g2 g3 g4 g5 g6
    refine wp_region_held_drew (S := fun W => W.cell? ⟨Mb, 0, none⟩ = some (.int .i64 m.n) ∧ W.cell? ⟨Mb, 1, none⟩ = some (.int .i64 m.s) ∧ W.cell? ⟨Mb, 2, none⟩ = some (.slice ai m.i.length ci) ∧ W.cell? ⟨Mb, 3, none⟩ = some (.slice ah m.h.length ch) ∧ W.cell? ⟨Mb, 4, none⟩ = some (.slice ae m.e.length ce) ∧ W.cell? ⟨Mb, 5, none⟩ = some (.int .i64 m.z) ∧ W.cell? ⟨Sb, 0, none⟩ = some (.slice ar s.r.length cr) ∧ W.cell? ⟨Sb, 1, none⟩ = some (.int .i64 s.q) ∧ W.cell? ⟨Sb, 2, none⟩ = some (.int .i64 s.d) ∧ W.cell? ⟨Eb, 0, none⟩ = some (.int .i64 ft) ∧ W.cell? ⟨Eb, 1, none⟩ = some (.int .i64 fs) ∧ W.cell? ⟨Eb, 2, none⟩ = some (.int .i64 fq) ∧ W.cell? ⟨Eb, 3, none⟩ = some (.int .i64 fd) ∧ W.cell? ⟨Eb, 4, none⟩ = some (.int .i64 fk) ∧ W.cell? ⟨Eb, 5, none⟩ = some (.int .i64 fv) ∧ W.cell? ⟨Eb, 6, none⟩ = some (.int .i64 fg)) (by kernel_rfl) HQ.out (fun hHeld => ?_)
    refine wpAnyH_take (i := 0) (oi := { dst := some 30, op := Op.load 36 (Operand.tmp 7), type := 36, pos := _, after := _, guard := none }) (v := .agg #[.int .i64 m.n, .int .i64 m.s, .slice ai m.i.length ci, .slice ah m.h.length ch, .slice ae m.e.length ce, .int .i64 m.z]) rfl (by kernel_rfl) (by kernel_rfl) (by kernel_rfl) (fun _ _ _ h => h) (Or.inl ⟨by rfl, ?_⟩) (by assumption) ?_
    · intro wX hSw
      try dsimp only at hSw
      go_simp
    try simp only [Act.put, List.setIfInBounds_toArray, List.set_cons_zero, List.set_cons_succ]
    refine wpAnyH_take (i := 1) (oi := { dst := some 31, op := Op.move (Operand.tmp 8), type := 22, pos := _, after := _, guard := none }) (v := xd) rfl (by kernel_rfl) (by kernel_rfl) (by kernel_rfl) (fun _ _ _ h => h) (Or.inl ⟨by rfl, ?_⟩) (by assumption) ?_
    · intro wX hSw
      try dsimp only at hSw
      go_simp
    try simp only [Act.put, List.setIfInBounds_toArray, List.set_cons_zero, List.set_cons_succ]
    refine wpAnyH_take (i := 2) (oi := { dst := some 32, op := Op.load 48 (Operand.tmp 9), type := 48, pos := _, after := _, guard := none }) (v := .agg #[.slice ar s.r.length cr, .int .i64 s.q, .int .i64 s.d]) rfl (by kernel_rfl) (by kernel_rfl) (by kernel_rfl) (fun _ _ _ h => h) (Or.inl ⟨by rfl, ?_⟩) (by assumption) ?_
    · intro wX hSw
      try dsimp only at hSw
      go_simp
    try simp only [Act.put, List.setIfInBounds_toArray, List.set_cons_zero, List.set_cons_succ]
    refine wpAnyH_take (i := 3) (oi := { dst := some 33, op := Op.load 50 (Operand.tmp 10), type := 50, pos := _, after := _, guard := none }) (v := .agg #[.int .i64 ft, .int .i64 fs, .int .i64 fq, .int .i64 fd, .int .i64 fk, .int .i64 fv, .int .i64 fg]) rfl (by kernel_rfl) (by kernel_rfl) (by kernel_rfl) (fun _ _ _ h => h) (Or.inl ⟨by rfl, ?_⟩) (by assumption) ?_
    · intro wX hSw
      try dsimp only at hSw
      go_simp
    try simp only [Act.put, List.setIfInBounds_toArray, List.set_cons_zero, List.set_cons_succ]
    refine wpAnyH_ready (rs := [4]) (by kernel_rfl) (by simp) ?_
    refine AllReadyH.cons (o := { dst := none, op := Op.store 36 (Operand.tmp 2) (Operand.tmp 30), type := 0, pos := _, after := _, guard := none }) rfl (fun K hK => ?_) AllReadyH.nil
    have q0 := R2_W13.out.cell (i := 0) rfl
    have q1 := R2_W13.out.cell (i := 1) rfl
    have q2 := R2_W13.out.cell (i := 2) rfl
    have q3 := R2_W13.out.cell (i := 3) rfl
    have q4 := R2_W13.out.cell (i := 4) rfl
    have q5 := R2_W13.out.cell (i := 5) rfl
    have qf := R2_W13.out.free
    go_simp
    clear qf q0 q1 q2 q3 q4 q5
    rw [HY1.out]
    refine hK.out _ _ HQ1.out (fun hHeld => ?_)
    clear hK K
    try simp only [Act.put, List.setIfInBounds_toArray, List.set_cons_zero, List.set_cons_succ]
    refine wpAnyH_take (i := 5) (oi := { dst := some 3, op := Op.assign (Operand.tmp 31), type := 22, pos := _, after := _, guard := none }) (v := xd) rfl (by kernel_rfl) (by kernel_rfl) (by kernel_rfl) (fun _ _ _ h => h) (Or.inl ⟨by rfl, ?_⟩) (by assumption) ?_
    · intro wX hSw
      try dsimp only at hSw
      go_simp
    try simp only [Act.put, List.setIfInBounds_toArray, List.set_cons_zero, List.set_cons_succ]
    refine wpAnyH_ready (rs := [6]) (by kernel_rfl) (by simp) ?_
    refine AllReadyH.cons (o := { dst := none, op := Op.store 48 (Operand.tmp 4) (Operand.tmp 32), type := 0, pos := _, after := _, guard := none }) rfl (fun K hK => ?_) AllReadyH.nil
    have q0 := HR4.out.cell (i := 0) rfl
    have q1 := HR4.out.cell (i := 1) rfl
    have q2 := HR4.out.cell (i := 2) rfl
    have qf := HR4.out.free
    go_simp
    clear qf q0 q1 q2
    rw [HY2.out]
    refine hK.out _ _ HQ2.out (fun hHeld => ?_)
    clear hK K
    try simp only [Act.put, List.setIfInBounds_toArray, List.set_cons_zero, List.set_cons_succ]
    refine wpAnyH_ready (rs := [7]) (by kernel_rfl) (by simp) ?_
    refine AllReadyH.cons (o := { dst := none, op := Op.store 50 (Operand.tmp 5) (Operand.tmp 33), type := 0, pos := _, after := _, guard := none }) rfl (fun K hK => ?_) AllReadyH.nil
    have q0 := HR5.out.cell (i := 0) rfl
    have q1 := HR5.out.cell (i := 1) rfl
    have q2 := HR5.out.cell (i := 2) rfl
    have q3 := HR5.out.cell (i := 3) rfl
    have q4 := HR5.out.cell (i := 4) rfl
    have q5 := HR5.out.cell (i := 5) rfl
    have q6 := HR5.out.cell (i := 6) rfl
    have qf := HR5.out.free
    go_simp
    clear qf q0 q1 q2 q3 q4 q5 q6
    rw [HY3.out]
    refine hK.out _ _ HQ3.out (fun hHeld => ?_)
    clear hK K
    try simp only [Act.put, List.setIfInBounds_toArray, List.set_cons_zero, List.set_cons_succ]
    refine wpAnyH_done (by kernel_rfl) ?_ _
    clear hHeld
    go_wp2
    have p1 := (HP1.out.turns HT2.out (by omega)).turns HT3.out (by omega)
    have p2 := HP2.out.turns HT3.out (by omega)
    have p3 := HP3.out
    have a0 := p1.cell (i := 0) rfl
    have a1 := p1.cell (i := 1) rfl
    have a2 := p1.cell (i := 2) rfl
    have a3 := p1.cell (i := 3) rfl
    have a4 := p1.cell (i := 4) rfl
    have a5 := p1.cell (i := 5) rfl
    have b0 := p2.cell (i := 0) rfl
    have b1 := p2.cell (i := 1) rfl
    have b2 := p2.cell (i := 2) rfl
    have c0 := p3.cell (i := 0) rfl
    have c1 := p3.cell (i := 1) rfl
    have c2 := p3.cell (i := 2) rfl
    have c3 := p3.cell (i := 3) rfl
    have c4 := p3.cell (i := 4) rfl
    have c5 := p3.cell (i := 5) rfl
    have c6 := p3.cell (i := 6) rfl
    have hT : Turns (fun k => k = w.heap.size ∨ k = w.heap.size + 1 ∨ k = w.heap.size + 1 + 1) W13 X3 := ((HT1.out.sub (fun k e => .inl e)).trans (HT2.out.sub (fun k e => .inr (.inl e)))).trans (HT3.out.sub (fun k e => .inr (.inr e)))
    refine bodyPost_ret (v := .tuple #[.agg #[.int .i64 m.n, .int .i64 m.s, .slice ai m.i.length ci, .slice ah m.h.length ch, .slice ae m.e.length ce, .int .i64 m.z], xd, .agg #[.slice ar s.r.length cr, .int .i64 s.q, .int .i64 s.d], .agg #[.int .i64 ft, .int .i64 fs, .int .i64 fq, .int .i64 fd, .int .i64 fk, .int .i64 fv, .int .i64 fg]]) (by simp [results, Tryz.results23, go_sem, a0, a1, a2, a3, a4, a5, b0, b1, b2, c0, c1, c2, c3, c4, c5, c6]) rfl ?_
    refine ⟨m, _, xd, _, l, s, ⟨ft, fs, fq, fd, fk, fv, fg⟩, rfl, ?_, HTy.out, ?_, HL.out, ?_, HS2.out, hq0, hq1, B_W13.out.trans (hT.to_below (fun k e => by omega) B_W13.out.size)⟩
    · exact ((HM.out.turns TM_W13.out (fun k hk e => by have := hk.1; omega)).turns hT (fun k hk e => by have := hk.1; omega)).isM
    · have hx := (HO.out.turns TD_W13.out (by omega))
      exact (((hx.turns HT1.out (by omega)).turns HT2.out (by omega)).turns HT3.out (by omega)).isI
    · obtain ⟨G, hG1, hG2, hG⟩ := HS.out
      exact hG (fun k => k = c ∨ k = w.heap.size ∨ k = w.heap.size + 1 ∨ k = w.heap.size + 1 + 1) X3 ((TS_W13.out.sub (fun k e => .inl e)).trans (hT.sub (fun k e => .inr e))) (by omega)
end Go.Proofs.YtmpoffepoafblaaGreat

/- The program's Handle. -/
namespace Go.Proofs.YtmpoffepoafblaaGreat
open Go.RowKit
def handB (m : Md) (l : List Int) (s : St) (e : Ev) : Bool := m.ok && (vok l && (s.ok && (e.ok && fitB m e.t e.d e.k)))
def zeroE : Ef := ⟨⟨[], 0, 0⟩, [], [], 0⟩
def handR (m : Md) (l : List Int) (s : St) (e : Ev) : Ef := if handB m l s e = true then effR m l s e else zeroE
theorem zero_ef (B : Nat) (w : World) : EfF (fun k => B ≤ k ∧ k < w.heap.size) w (.agg #[.slice none 0 0, .int .i64 0, .int .i64 0, .slice none 0 0, .slice none 0 0, .int .i64 0]) zeroE :=
  ef_of (r := []) (s := []) (x := []) (World.ownsRow_nil _ _ _ _) (World.ownsRow_nil _ _ _ _) (World.ownsRow_nil _ _ _ _)
theorem vec_of {l : List Int} (h : vok l = true) : ∃ c0 c1 c2 c3, l = [c0, c1, c2, c3] ∧ ∀ a : Int, -1 ≤ vecAt c0 c1 c2 c3 a ∧ vecAt c0 c1 c2 c3 a ≤ 1 := by
  obtain ⟨a, b, c, d, rfl, h0, h1, h2, h3⟩ := vok_four h
  refine ⟨a, b, c, d, rfl, fun i => ?_⟩
  unfold vecAt
  split
  · omega
  · split
    · omega
    · split <;> omega
theorem fit_of {m : Md} {s : St} {e : Ev} {c0 c1 c2 c3 : Int} (hm : m.ok = true) (hs : s.ok = true) (he : e.ok = true) (hf : fitB m e.t e.d e.k = true) (hv : ∀ a : Int, -1 ≤ vecAt c0 c1 c2 c3 a ∧ vecAt c0 c1 c2 c3 a ≤ 1) : Fit m c0 c1 c2 c3 s e := by
  simp [fitB] at hf
  exact ⟨hm, hs, he, by omega, by omega, hv⟩
set_option maxRecDepth 100000 in
set_option maxHeartbeats 16000000 in
theorem iHan (x y d : Value) (m : Md) (l : List Int) (s : St) (e : Ev) (w : World) (hsm : SmallM m) (hl : l.length ≤ 1048576) (hm : IsM w x m) (hd : IsI w d l) (hs : IsS w y s) :
    Calls Tryz.prog 24 #[x, d, y, .agg #[.int .i64 e.t, .int .i64 e.s, .int .i64 e.q, .int .i64 e.d, .int .i64 e.k, .int .i64 e.v, .int .i64 e.g]] w fun r w' => ∃ u, r = .returned (.tuple #[u, .bool (handB m l s e)]) ∧ Below w.heap.size w w' ∧ EfF (fun k => w.heap.size ≤ k ∧ k < w'.heap.size) w' u (handR m l s e) := by
  have HM : Hid (IsM w x m) := hm
  have HS : Hid (IsS w y s) := hs
  have HD : Hid (IsI w d l) := hd
  have HSM : Hid (SmallM m) := hsm
  have HL : Hid (l.length ≤ 4611686018427387904) := (by omega : l.length ≤ 4611686018427387904)
  obtain ⟨vi, vh, vs, rfl, ⟨ai, ci, rfl, _⟩, ⟨ah, ch, rfl, _⟩, ⟨ae, ce, rfl, _⟩⟩ := hm
  obtain ⟨vr, rfl, _⟩ := hs
  clear hsm hl hd
  obtain ⟨W0, hW0⟩ : ∃ W0, (((w.alloc (.cells #[.int .i64 m.n, .int .i64 m.s, .slice ai m.i.length ci, .slice ah m.h.length ch, .slice ae m.e.length ce, .int .i64 m.z] 36)).alloc (.cells #[vr, .int .i64 s.q, .int .i64 s.d] 48)).alloc (.cells #[.int .i64 e.t, .int .i64 e.s, .int .i64 e.q, .int .i64 e.d, .int .i64 e.k, .int .i64 e.v, .int .i64 e.g] 50)).alloc (.cells #[.slice none 0 0, .int .i64 0, .int .i64 0, .slice none 0 0, .slice none 0 0, .int .i64 0] 54) = W0 := ⟨_, rfl⟩
  have HM0 : Hid (Bk W0 w.heap.size 36 #[.int .i64 m.n, .int .i64 m.s, .slice ai m.i.length ci, .slice ah m.h.length ch, .slice ae m.e.length ce, .int .i64 m.z]) := by rw [← hW0]; exact (((Bk.new w _ _).alloc _).alloc _).alloc _
  have HS0 : Hid (Bk W0 (w.heap.size + 1) 48 #[vr, .int .i64 s.q, .int .i64 s.d]) := by rw [← hW0]; exact ((Bk.newAt (by simp) _ _).alloc _).alloc _
  have HV0 : Hid (Bk W0 (w.heap.size + 1 + 1) 50 #[.int .i64 e.t, .int .i64 e.s, .int .i64 e.q, .int .i64 e.d, .int .i64 e.k, .int .i64 e.v, .int .i64 e.g]) := by rw [← hW0]; exact (Bk.newAt (by simp) _ _).alloc _
  have HR0 : Hid (Bk W0 (w.heap.size + 1 + 1 + 1) 54 #[.slice none 0 0, .int .i64 0, .int .i64 0, .slice none 0 0, .slice none 0 0, .int .i64 0]) := by rw [← hW0]; exact Bk.newAt (by simp) _ _
  have HB0 : Hid (Below w.heap.size w W0) := by rw [← hW0]; exact ((((Below.refl _ w).alloc (Nat.le_refl _) _).alloc (by simp) _).alloc (by simp; omega) _).alloc (by simp; omega) _
  go_enter Tryz.func24, Tryz.ntmps24
  go_wp2_with fail
  clear hW0
  refine (of_any _ l _ HL.out (HD.out.below HB0.out)).mono ?_
  rintro r w1 ⟨rfl, hb⟩
  have HB1 : Hid (Below w.heap.size w w1) := HB0.out.trans (hb.mono HB0.out.size)
  have HM1 : Hid (Bk w1 w.heap.size 36 #[.int .i64 m.n, .int .i64 m.s, .slice ai m.i.length ci, .slice ah m.h.length ch, .slice ae m.e.length ce, .int .i64 m.z]) := HM0.out.below hb
  have HS1 : Hid (Bk w1 (w.heap.size + 1) 48 #[vr, .int .i64 s.q, .int .i64 s.d]) := HS0.out.below hb
  have HV1 : Hid (Bk w1 (w.heap.size + 1 + 1) 50 #[.int .i64 e.t, .int .i64 e.s, .int .i64 e.q, .int .i64 e.d, .int .i64 e.k, .int .i64 e.v, .int .i64 e.g]) := HV0.out.below hb
  have HR1 : Hid (Bk w1 (w.heap.size + 1 + 1 + 1) 54 #[.slice none 0 0, .int .i64 0, .int .i64 0, .slice none 0 0, .slice none 0 0, .int .i64 0]) := HR0.out.below hb
  clear hb HB0 HM0 HS0 HV0 HR0
  cases hv : vok l with
  | false =>
    rw [show vecOf l = vec 0 0 0 0 from vec_no hv]
    obtain ⟨w2, hw2⟩ : ∃ W, w1.alloc (.cells #[i64 0, i64 0, i64 0, i64 0] 107) = W := ⟨_, rfl⟩
    have hb : Below w1.heap.size w1 w2 := by rw [← hw2]; exact (Below.refl _ _).alloc (Nat.le_refl _) _
    have HC2 : Hid (Bk w2 w1.heap.size 107 #[i64 0, i64 0, i64 0, i64 0]) := by rw [← hw2]; exact Bk.new _ _ _
    have HW2 : Hid (w1.alloc (.cells #[i64 0, i64 0, i64 0, i64 0] 107) = w2) := hw2
    clear hw2
    have p0 := (HM1.out.alloc (.cells #[i64 0, i64 0, i64 0, i64 0] 107)).cell (i := 0) rfl
    have p1 := (HM1.out.alloc (.cells #[i64 0, i64 0, i64 0, i64 0] 107)).cell (i := 1) rfl
    have p2 := (HM1.out.alloc (.cells #[i64 0, i64 0, i64 0, i64 0] 107)).cell (i := 2) rfl
    have p3 := (HM1.out.alloc (.cells #[i64 0, i64 0, i64 0, i64 0] 107)).cell (i := 3) rfl
    have p4 := (HM1.out.alloc (.cells #[i64 0, i64 0, i64 0, i64 0] 107)).cell (i := 4) rfl
    have p5 := (HM1.out.alloc (.cells #[i64 0, i64 0, i64 0, i64 0] 107)).cell (i := 5) rfl
    have hvk : vok l = false := hv
    go_wp2_with fail
    clear p0 p1 p2 p3 p4 p5
    rw [HW2.out]
    clear HW2
    have HB2 : Hid (Below w.heap.size w w2) := HB1.out.trans (hb.mono HB1.out.size)
    have HM2 : Hid (Bk w2 w.heap.size 36 #[.int .i64 m.n, .int .i64 m.s, .slice ai m.i.length ci, .slice ah m.h.length ch, .slice ae m.e.length ce, .int .i64 m.z]) := HM1.out.below hb
    have HS2 : Hid (Bk w2 (w.heap.size + 1) 48 #[vr, .int .i64 s.q, .int .i64 s.d]) := HS1.out.below hb
    have HV2 : Hid (Bk w2 (w.heap.size + 1 + 1) 50 #[.int .i64 e.t, .int .i64 e.s, .int .i64 e.q, .int .i64 e.d, .int .i64 e.k, .int .i64 e.v, .int .i64 e.g]) := HV1.out.below hb
    have HR2 : Hid (Bk w2 (w.heap.size + 1 + 1 + 1) 54 #[.slice none 0 0, .int .i64 0, .int .i64 0, .slice none 0 0, .slice none 0 0, .int .i64 0]) := HR1.out.below hb
    clear hb HB1 HM1 HS1 HV1 HR1
    refine (iModM _ m _ HSM.out (HM.out.below HB2.out)).mono ?_
    rintro r w3 ⟨rfl, hb⟩
    have HC3 : Hid (Bk w3 w1.heap.size 107 #[i64 0, i64 0, i64 0, i64 0]) := HC2.out.below hb
    have HB3 : Hid (Below w.heap.size w w3) := HB2.out.trans (hb.mono HB2.out.size)
    have HM3 : Hid (Bk w3 w.heap.size 36 #[.int .i64 m.n, .int .i64 m.s, .slice ai m.i.length ci, .slice ah m.h.length ch, .slice ae m.e.length ce, .int .i64 m.z]) := HM2.out.below hb
    have HS3 : Hid (Bk w3 (w.heap.size + 1) 48 #[vr, .int .i64 s.q, .int .i64 s.d]) := HS2.out.below hb
    have HV3 : Hid (Bk w3 (w.heap.size + 1 + 1) 50 #[.int .i64 e.t, .int .i64 e.s, .int .i64 e.q, .int .i64 e.d, .int .i64 e.k, .int .i64 e.v, .int .i64 e.g]) := HV2.out.below hb
    have HR3 : Hid (Bk w3 (w.heap.size + 1 + 1 + 1) 54 #[.slice none 0 0, .int .i64 0, .int .i64 0, .slice none 0 0, .slice none 0 0, .int .i64 0]) := HR2.out.below hb
    clear hb HB2 HM2 HS2 HV2 HR2
    cases hmo : m.ok with
    | false =>
      have HNO : Hid (handB m l s e = false) := (by simp [handB, hmo] : handB m l s e = false)
      have r0 := HR3.out.cell (i := 0) rfl
      have r1 := HR3.out.cell (i := 1) rfl
      have r2 := HR3.out.cell (i := 2) rfl
      have r3 := HR3.out.cell (i := 3) rfl
      have r4 := HR3.out.cell (i := 4) rfl
      have r5 := HR3.out.cell (i := 5) rfl
      have rf := HR3.out.free
      go_wp2
      clear r0 r1 r2 r3 r4 r5 rf
      obtain ⟨X5, hX5⟩ : ∃ X5, put6 w3 (w.heap.size + 1 + 1 + 1) (.slice none 0 0) (.int .i64 0) (.int .i64 0) (.slice none 0 0) (.slice none 0 0) (.int .i64 0) = X5 := ⟨_, rfl⟩
      have hR := HR3.out.put6 (.slice none 0 0) (.int .i64 0) (.int .i64 0) (.slice none 0 0) (.slice none 0 0) (.int .i64 0)
      have ht := put6_turns w3 (w.heap.size + 1 + 1 + 1) (.slice none 0 0) (.int .i64 0) (.int .i64 0) (.slice none 0 0) (.slice none 0 0) (.int .i64 0)
      rw [hX5] at hR ht
      unfold put6 at hX5
      rw [hX5]
      have t0 := hR.cell (i := 0) rfl
      have t1 := hR.cell (i := 1) rfl
      have t2 := hR.cell (i := 2) rfl
      have t3 := hR.cell (i := 3) rfl
      have t4 := hR.cell (i := 4) rfl
      have t5 := hR.cell (i := 5) rfl
      have hno : handB m l s e = false := HNO.out
      refine bodyPost_ret (v := .tuple #[.agg #[.slice none 0 0, .int .i64 0, .int .i64 0, .slice none 0 0, .slice none 0 0, .int .i64 0], .bool false]) (by simp [results, Tryz.results24, go_sem, t0, t1, t2, t3, t4, t5]) rfl ⟨_, by rw [hno], HB3.out.trans (ht.to_below (fun k e => by omega) HB3.out.size), ?_⟩
      rw [show handR m l s e = zeroE from by simp [handR, hno]]
      exact zero_ef _ _
    | true =>
      have HNO : Hid (handB m l s e = false) := (by simp [handB, hvk] : handB m l s e = false)
      have r0 := HR3.out.cell (i := 0) rfl
      have r1 := HR3.out.cell (i := 1) rfl
      have r2 := HR3.out.cell (i := 2) rfl
      have r3 := HR3.out.cell (i := 3) rfl
      have r4 := HR3.out.cell (i := 4) rfl
      have r5 := HR3.out.cell (i := 5) rfl
      have rf := HR3.out.free
      go_wp2
      clear r0 r1 r2 r3 r4 r5 rf
      obtain ⟨X5, hX5⟩ : ∃ X5, put6 w3 (w.heap.size + 1 + 1 + 1) (.slice none 0 0) (.int .i64 0) (.int .i64 0) (.slice none 0 0) (.slice none 0 0) (.int .i64 0) = X5 := ⟨_, rfl⟩
      have hR := HR3.out.put6 (.slice none 0 0) (.int .i64 0) (.int .i64 0) (.slice none 0 0) (.slice none 0 0) (.int .i64 0)
      have ht := put6_turns w3 (w.heap.size + 1 + 1 + 1) (.slice none 0 0) (.int .i64 0) (.int .i64 0) (.slice none 0 0) (.slice none 0 0) (.int .i64 0)
      rw [hX5] at hR ht
      unfold put6 at hX5
      rw [hX5]
      have t0 := hR.cell (i := 0) rfl
      have t1 := hR.cell (i := 1) rfl
      have t2 := hR.cell (i := 2) rfl
      have t3 := hR.cell (i := 3) rfl
      have t4 := hR.cell (i := 4) rfl
      have t5 := hR.cell (i := 5) rfl
      have hno : handB m l s e = false := HNO.out
      refine bodyPost_ret (v := .tuple #[.agg #[.slice none 0 0, .int .i64 0, .int .i64 0, .slice none 0 0, .slice none 0 0, .int .i64 0], .bool false]) (by simp [results, Tryz.results24, go_sem, t0, t1, t2, t3, t4, t5]) rfl ⟨_, by rw [hno], HB3.out.trans (ht.to_below (fun k e => by omega) HB3.out.size), ?_⟩
      rw [show handR m l s e = zeroE from by simp [handR, hno]]
      exact zero_ef _ _
  | true =>
    obtain ⟨c0, c1, c2, c3, rfl, hvc⟩ := vec_of hv
    rw [show vecOf [c0, c1, c2, c3] = vec c0 c1 c2 c3 from by simp [vecOf, hv, intAt]]
    obtain ⟨w2, hw2⟩ : ∃ W, w1.alloc (.cells #[i64 c0, i64 c1, i64 c2, i64 c3] 107) = W := ⟨_, rfl⟩
    have hb : Below w1.heap.size w1 w2 := by rw [← hw2]; exact (Below.refl _ _).alloc (Nat.le_refl _) _
    have HC2 : Hid (Bk w2 w1.heap.size 107 #[i64 c0, i64 c1, i64 c2, i64 c3]) := by rw [← hw2]; exact Bk.new _ _ _
    have HB2 : Hid (Below w.heap.size w w2) := HB1.out.trans (hb.mono HB1.out.size)
    have HM2 : Hid (Bk w2 w.heap.size 36 #[.int .i64 m.n, .int .i64 m.s, .slice ai m.i.length ci, .slice ah m.h.length ch, .slice ae m.e.length ce, .int .i64 m.z]) := HM1.out.below hb
    have HS2 : Hid (Bk w2 (w.heap.size + 1) 48 #[vr, .int .i64 s.q, .int .i64 s.d]) := HS1.out.below hb
    have HV2 : Hid (Bk w2 (w.heap.size + 1 + 1) 50 #[.int .i64 e.t, .int .i64 e.s, .int .i64 e.q, .int .i64 e.d, .int .i64 e.k, .int .i64 e.v, .int .i64 e.g]) := HV1.out.below hb
    have HR2 : Hid (Bk w2 (w.heap.size + 1 + 1 + 1) 54 #[.slice none 0 0, .int .i64 0, .int .i64 0, .slice none 0 0, .slice none 0 0, .int .i64 0]) := HR1.out.below hb
    clear hb HB1 HM1 HS1 HV1 HR1
    have p0 := HM2.out.cell (i := 0) rfl
    have p1 := HM2.out.cell (i := 1) rfl
    have p2 := HM2.out.cell (i := 2) rfl
    have p3 := HM2.out.cell (i := 3) rfl
    have p4 := HM2.out.cell (i := 4) rfl
    have p5 := HM2.out.cell (i := 5) rfl
    have hvk : vok [c0, c1, c2, c3] = true := hv
    go_wp2_with fail
    clear hw2
    clear p0 p1 p2 p3 p4 p5
    refine (iModM _ m _ HSM.out (HM.out.below HB2.out)).mono ?_
    rintro r w3 ⟨rfl, hb⟩
    have HC3 : Hid (Bk w3 w1.heap.size 107 #[i64 c0, i64 c1, i64 c2, i64 c3]) := HC2.out.below hb
    have HB3 : Hid (Below w.heap.size w w3) := HB2.out.trans (hb.mono HB2.out.size)
    have HM3 : Hid (Bk w3 w.heap.size 36 #[.int .i64 m.n, .int .i64 m.s, .slice ai m.i.length ci, .slice ah m.h.length ch, .slice ae m.e.length ce, .int .i64 m.z]) := HM2.out.below hb
    have HS3 : Hid (Bk w3 (w.heap.size + 1) 48 #[vr, .int .i64 s.q, .int .i64 s.d]) := HS2.out.below hb
    have HV3 : Hid (Bk w3 (w.heap.size + 1 + 1) 50 #[.int .i64 e.t, .int .i64 e.s, .int .i64 e.q, .int .i64 e.d, .int .i64 e.k, .int .i64 e.v, .int .i64 e.g]) := HV2.out.below hb
    have HR3 : Hid (Bk w3 (w.heap.size + 1 + 1 + 1) 54 #[.slice none 0 0, .int .i64 0, .int .i64 0, .slice none 0 0, .slice none 0 0, .int .i64 0]) := HR2.out.below hb
    clear hb HB2 HM2 HS2 HV2 HR2
    cases hmo : m.ok with
    | false =>
      have HNO : Hid (handB m [c0, c1, c2, c3] s e = false) := (by simp [handB, hmo] : handB m [c0, c1, c2, c3] s e = false)
      have r0 := HR3.out.cell (i := 0) rfl
      have r1 := HR3.out.cell (i := 1) rfl
      have r2 := HR3.out.cell (i := 2) rfl
      have r3 := HR3.out.cell (i := 3) rfl
      have r4 := HR3.out.cell (i := 4) rfl
      have r5 := HR3.out.cell (i := 5) rfl
      have rf := HR3.out.free
      go_wp2
      clear r0 r1 r2 r3 r4 r5 rf
      obtain ⟨X5, hX5⟩ : ∃ X5, put6 w3 (w.heap.size + 1 + 1 + 1) (.slice none 0 0) (.int .i64 0) (.int .i64 0) (.slice none 0 0) (.slice none 0 0) (.int .i64 0) = X5 := ⟨_, rfl⟩
      have hR := HR3.out.put6 (.slice none 0 0) (.int .i64 0) (.int .i64 0) (.slice none 0 0) (.slice none 0 0) (.int .i64 0)
      have ht := put6_turns w3 (w.heap.size + 1 + 1 + 1) (.slice none 0 0) (.int .i64 0) (.int .i64 0) (.slice none 0 0) (.slice none 0 0) (.int .i64 0)
      rw [hX5] at hR ht
      unfold put6 at hX5
      rw [hX5]
      have t0 := hR.cell (i := 0) rfl
      have t1 := hR.cell (i := 1) rfl
      have t2 := hR.cell (i := 2) rfl
      have t3 := hR.cell (i := 3) rfl
      have t4 := hR.cell (i := 4) rfl
      have t5 := hR.cell (i := 5) rfl
      have hno : handB m [c0, c1, c2, c3] s e = false := HNO.out
      refine bodyPost_ret (v := .tuple #[.agg #[.slice none 0 0, .int .i64 0, .int .i64 0, .slice none 0 0, .slice none 0 0, .int .i64 0], .bool false]) (by simp [results, Tryz.results24, go_sem, t0, t1, t2, t3, t4, t5]) rfl ⟨_, by rw [hno], HB3.out.trans (ht.to_below (fun k e => by omega) HB3.out.size), ?_⟩
      rw [show handR m [c0, c1, c2, c3] s e = zeroE from by simp [handR, hno]]
      exact zero_ef _ _
    | true =>
      have k0 := HS3.out.cell (i := 0) rfl
      have k1 := HS3.out.cell (i := 1) rfl
      have k2 := HS3.out.cell (i := 2) rfl
      go_wp2_with fail
      clear k0 k1 k2
      refine (iStOk _ s _ (HS.out.below HB3.out)).mono ?_
      rintro r w4 ⟨rfl, hb⟩
      have HC4 : Hid (Bk w4 w1.heap.size 107 #[i64 c0, i64 c1, i64 c2, i64 c3]) := HC3.out.below hb
      have HB4 : Hid (Below w.heap.size w w4) := HB3.out.trans (hb.mono HB3.out.size)
      have HM4 : Hid (Bk w4 w.heap.size 36 #[.int .i64 m.n, .int .i64 m.s, .slice ai m.i.length ci, .slice ah m.h.length ch, .slice ae m.e.length ce, .int .i64 m.z]) := HM3.out.below hb
      have HS4 : Hid (Bk w4 (w.heap.size + 1) 48 #[vr, .int .i64 s.q, .int .i64 s.d]) := HS3.out.below hb
      have HV4 : Hid (Bk w4 (w.heap.size + 1 + 1) 50 #[.int .i64 e.t, .int .i64 e.s, .int .i64 e.q, .int .i64 e.d, .int .i64 e.k, .int .i64 e.v, .int .i64 e.g]) := HV3.out.below hb
      have HR4 : Hid (Bk w4 (w.heap.size + 1 + 1 + 1) 54 #[.slice none 0 0, .int .i64 0, .int .i64 0, .slice none 0 0, .slice none 0 0, .int .i64 0]) := HR3.out.below hb
      clear hb HB3 HM3 HS3 HV3 HR3
      cases hso : s.ok with
      | false =>
        have HNO : Hid (handB m [c0, c1, c2, c3] s e = false) := (by simp [handB, hso] : handB m [c0, c1, c2, c3] s e = false)
        have r0 := HR4.out.cell (i := 0) rfl
        have r1 := HR4.out.cell (i := 1) rfl
        have r2 := HR4.out.cell (i := 2) rfl
        have r3 := HR4.out.cell (i := 3) rfl
        have r4 := HR4.out.cell (i := 4) rfl
        have r5 := HR4.out.cell (i := 5) rfl
        have rf := HR4.out.free
        go_wp2
        clear r0 r1 r2 r3 r4 r5 rf
        obtain ⟨X5, hX5⟩ : ∃ X5, put6 w4 (w.heap.size + 1 + 1 + 1) (.slice none 0 0) (.int .i64 0) (.int .i64 0) (.slice none 0 0) (.slice none 0 0) (.int .i64 0) = X5 := ⟨_, rfl⟩
        have hR := HR4.out.put6 (.slice none 0 0) (.int .i64 0) (.int .i64 0) (.slice none 0 0) (.slice none 0 0) (.int .i64 0)
        have ht := put6_turns w4 (w.heap.size + 1 + 1 + 1) (.slice none 0 0) (.int .i64 0) (.int .i64 0) (.slice none 0 0) (.slice none 0 0) (.int .i64 0)
        rw [hX5] at hR ht
        unfold put6 at hX5
        rw [hX5]
        have t0 := hR.cell (i := 0) rfl
        have t1 := hR.cell (i := 1) rfl
        have t2 := hR.cell (i := 2) rfl
        have t3 := hR.cell (i := 3) rfl
        have t4 := hR.cell (i := 4) rfl
        have t5 := hR.cell (i := 5) rfl
        have hno : handB m [c0, c1, c2, c3] s e = false := HNO.out
        refine bodyPost_ret (v := .tuple #[.agg #[.slice none 0 0, .int .i64 0, .int .i64 0, .slice none 0 0, .slice none 0 0, .int .i64 0], .bool false]) (by simp [results, Tryz.results24, go_sem, t0, t1, t2, t3, t4, t5]) rfl ⟨_, by rw [hno], HB4.out.trans (ht.to_below (fun k e => by omega) HB4.out.size), ?_⟩
        rw [show handR m [c0, c1, c2, c3] s e = zeroE from by simp [handR, hno]]
        exact zero_ef _ _
      | true =>
        have v0 := HV4.out.cell (i := 0) rfl
        have v1 := HV4.out.cell (i := 1) rfl
        have v2 := HV4.out.cell (i := 2) rfl
        have v3 := HV4.out.cell (i := 3) rfl
        have v4 := HV4.out.cell (i := 4) rfl
        have v5 := HV4.out.cell (i := 5) rfl
        have v6 := HV4.out.cell (i := 6) rfl
        go_wp2_with fail
        clear v0 v1 v2 v3 v4 v5 v6
        refine (iOk_any e.t e.s e.q e.d e.k e.v e.g _).mono ?_
        rintro r w5 ⟨rfl, hb⟩
        have HC5 : Hid (Bk w5 w1.heap.size 107 #[i64 c0, i64 c1, i64 c2, i64 c3]) := HC4.out.below hb
        have HB5 : Hid (Below w.heap.size w w5) := HB4.out.trans (hb.mono HB4.out.size)
        have HM5 : Hid (Bk w5 w.heap.size 36 #[.int .i64 m.n, .int .i64 m.s, .slice ai m.i.length ci, .slice ah m.h.length ch, .slice ae m.e.length ce, .int .i64 m.z]) := HM4.out.below hb
        have HS5 : Hid (Bk w5 (w.heap.size + 1) 48 #[vr, .int .i64 s.q, .int .i64 s.d]) := HS4.out.below hb
        have HV5 : Hid (Bk w5 (w.heap.size + 1 + 1) 50 #[.int .i64 e.t, .int .i64 e.s, .int .i64 e.q, .int .i64 e.d, .int .i64 e.k, .int .i64 e.v, .int .i64 e.g]) := HV4.out.below hb
        have HR5 : Hid (Bk w5 (w.heap.size + 1 + 1 + 1) 54 #[.slice none 0 0, .int .i64 0, .int .i64 0, .slice none 0 0, .slice none 0 0, .int .i64 0]) := HR4.out.below hb
        clear hb HB4 HM4 HS4 HV4 HR4
        have heo' : okB e.t e.s e.q e.d e.k e.v e.g = e.ok := rfl
        rw [heo']
        clear heo'
        cases heo : e.ok with
        | false =>
          have HNO : Hid (handB m [c0, c1, c2, c3] s e = false) := (by simp [handB, heo] : handB m [c0, c1, c2, c3] s e = false)
          have r0 := HR5.out.cell (i := 0) rfl
          have r1 := HR5.out.cell (i := 1) rfl
          have r2 := HR5.out.cell (i := 2) rfl
          have r3 := HR5.out.cell (i := 3) rfl
          have r4 := HR5.out.cell (i := 4) rfl
          have r5 := HR5.out.cell (i := 5) rfl
          have rf := HR5.out.free
          go_wp2
          clear r0 r1 r2 r3 r4 r5 rf
          obtain ⟨X5, hX5⟩ : ∃ X5, put6 w5 (w.heap.size + 1 + 1 + 1) (.slice none 0 0) (.int .i64 0) (.int .i64 0) (.slice none 0 0) (.slice none 0 0) (.int .i64 0) = X5 := ⟨_, rfl⟩
          have hR := HR5.out.put6 (.slice none 0 0) (.int .i64 0) (.int .i64 0) (.slice none 0 0) (.slice none 0 0) (.int .i64 0)
          have ht := put6_turns w5 (w.heap.size + 1 + 1 + 1) (.slice none 0 0) (.int .i64 0) (.int .i64 0) (.slice none 0 0) (.slice none 0 0) (.int .i64 0)
          rw [hX5] at hR ht
          unfold put6 at hX5
          rw [hX5]
          have t0 := hR.cell (i := 0) rfl
          have t1 := hR.cell (i := 1) rfl
          have t2 := hR.cell (i := 2) rfl
          have t3 := hR.cell (i := 3) rfl
          have t4 := hR.cell (i := 4) rfl
          have t5 := hR.cell (i := 5) rfl
          have hno : handB m [c0, c1, c2, c3] s e = false := HNO.out
          refine bodyPost_ret (v := .tuple #[.agg #[.slice none 0 0, .int .i64 0, .int .i64 0, .slice none 0 0, .slice none 0 0, .int .i64 0], .bool false]) (by simp [results, Tryz.results24, go_sem, t0, t1, t2, t3, t4, t5]) rfl ⟨_, by rw [hno], HB5.out.trans (ht.to_below (fun k e => by omega) HB5.out.size), ?_⟩
          rw [show handR m [c0, c1, c2, c3] s e = zeroE from by simp [handR, hno]]
          exact zero_ef _ _
        | true =>
          have p0 := HM5.out.cell (i := 0) rfl
          have p1 := HM5.out.cell (i := 1) rfl
          have p2 := HM5.out.cell (i := 2) rfl
          have p3 := HM5.out.cell (i := 3) rfl
          have p4 := HM5.out.cell (i := 4) rfl
          have p5 := HM5.out.cell (i := 5) rfl
          have v0 := HV5.out.cell (i := 0) rfl
          have v1 := HV5.out.cell (i := 1) rfl
          have v2 := HV5.out.cell (i := 2) rfl
          have v3 := HV5.out.cell (i := 3) rfl
          have v4 := HV5.out.cell (i := 4) rfl
          have v5 := HV5.out.cell (i := 5) rfl
          have v6 := HV5.out.cell (i := 6) rfl
          go_wp2_with fail
          clear p0 p1 p2 p3 p4 p5
          clear v0 v1 v2 v3 v4 v5 v6
          refine (fits_any _ m e.t e.s e.q e.d e.k e.v e.g _ (HM.out.below HB5.out)).mono ?_
          rintro r w6 ⟨rfl, hb⟩
          have HC6 : Hid (Bk w6 w1.heap.size 107 #[i64 c0, i64 c1, i64 c2, i64 c3]) := HC5.out.below hb
          have HB6 : Hid (Below w.heap.size w w6) := HB5.out.trans (hb.mono HB5.out.size)
          have HM6 : Hid (Bk w6 w.heap.size 36 #[.int .i64 m.n, .int .i64 m.s, .slice ai m.i.length ci, .slice ah m.h.length ch, .slice ae m.e.length ce, .int .i64 m.z]) := HM5.out.below hb
          have HS6 : Hid (Bk w6 (w.heap.size + 1) 48 #[vr, .int .i64 s.q, .int .i64 s.d]) := HS5.out.below hb
          have HV6 : Hid (Bk w6 (w.heap.size + 1 + 1) 50 #[.int .i64 e.t, .int .i64 e.s, .int .i64 e.q, .int .i64 e.d, .int .i64 e.k, .int .i64 e.v, .int .i64 e.g]) := HV5.out.below hb
          have HR6 : Hid (Bk w6 (w.heap.size + 1 + 1 + 1) 54 #[.slice none 0 0, .int .i64 0, .int .i64 0, .slice none 0 0, .slice none 0 0, .int .i64 0]) := HR5.out.below hb
          clear hb HB5 HM5 HS5 HV5 HR5
          cases hfo : fitB m e.t e.d e.k with
          | false =>
            have HNO : Hid (handB m [c0, c1, c2, c3] s e = false) := (by simp [handB, hfo] : handB m [c0, c1, c2, c3] s e = false)
            have r0 := HR6.out.cell (i := 0) rfl
            have r1 := HR6.out.cell (i := 1) rfl
            have r2 := HR6.out.cell (i := 2) rfl
            have r3 := HR6.out.cell (i := 3) rfl
            have r4 := HR6.out.cell (i := 4) rfl
            have r5 := HR6.out.cell (i := 5) rfl
            have rf := HR6.out.free
            go_wp2
            clear r0 r1 r2 r3 r4 r5 rf
            obtain ⟨X5, hX5⟩ : ∃ X5, put6 w6 (w.heap.size + 1 + 1 + 1) (.slice none 0 0) (.int .i64 0) (.int .i64 0) (.slice none 0 0) (.slice none 0 0) (.int .i64 0) = X5 := ⟨_, rfl⟩
            have hR := HR6.out.put6 (.slice none 0 0) (.int .i64 0) (.int .i64 0) (.slice none 0 0) (.slice none 0 0) (.int .i64 0)
            have ht := put6_turns w6 (w.heap.size + 1 + 1 + 1) (.slice none 0 0) (.int .i64 0) (.int .i64 0) (.slice none 0 0) (.slice none 0 0) (.int .i64 0)
            rw [hX5] at hR ht
            unfold put6 at hX5
            rw [hX5]
            have t0 := hR.cell (i := 0) rfl
            have t1 := hR.cell (i := 1) rfl
            have t2 := hR.cell (i := 2) rfl
            have t3 := hR.cell (i := 3) rfl
            have t4 := hR.cell (i := 4) rfl
            have t5 := hR.cell (i := 5) rfl
            have hno : handB m [c0, c1, c2, c3] s e = false := HNO.out
            refine bodyPost_ret (v := .tuple #[.agg #[.slice none 0 0, .int .i64 0, .int .i64 0, .slice none 0 0, .slice none 0 0, .int .i64 0], .bool false]) (by simp [results, Tryz.results24, go_sem, t0, t1, t2, t3, t4, t5]) rfl ⟨_, by rw [hno], HB6.out.trans (ht.to_below (fun k e => by omega) HB6.out.size), ?_⟩
            rw [show handR m [c0, c1, c2, c3] s e = zeroE from by simp [handR, hno]]
            exact zero_ef _ _
          | true =>
            have HYES : Hid (handB m [c0, c1, c2, c3] s e = true) := (by simp only [handB, hmo, hvk, hso, heo, hfo]; rfl : handB m [c0, c1, c2, c3] s e = true)
            have HANS : Hid (handR m [c0, c1, c2, c3] s e = effR m [c0, c1, c2, c3] s e) := if_pos HYES.out
            have HFIT : Hid (Fit m c0 c1 c2 c3 s e) := fit_of hmo hso heo hfo hvc
            have p0 := HM6.out.cell (i := 0) rfl
            have p1 := HM6.out.cell (i := 1) rfl
            have p2 := HM6.out.cell (i := 2) rfl
            have p3 := HM6.out.cell (i := 3) rfl
            have p4 := HM6.out.cell (i := 4) rfl
            have p5 := HM6.out.cell (i := 5) rfl
            have k0 := HS6.out.cell (i := 0) rfl
            have k1 := HS6.out.cell (i := 1) rfl
            have k2 := HS6.out.cell (i := 2) rfl
            have v0 := HV6.out.cell (i := 0) rfl
            have v1 := HV6.out.cell (i := 1) rfl
            have v2 := HV6.out.cell (i := 2) rfl
            have v3 := HV6.out.cell (i := 3) rfl
            have v4 := HV6.out.cell (i := 4) rfl
            have v5 := HV6.out.cell (i := 5) rfl
            have v6 := HV6.out.cell (i := 6) rfl
            have cc0 := HC6.out.cell (i := 0) rfl
            have cc1 := HC6.out.cell (i := 1) rfl
            have cc2 := HC6.out.cell (i := 2) rfl
            have cc3 := HC6.out.cell (i := 3) rfl
            clear hmo hso heo hfo hvk
            go_wp2_with fail
            clear p0 p1 p2 p3 p4 p5
            clear k0 k1 k2
            clear v0 v1 v2 v3 v4 v5 v6
            clear cc0 cc1 cc2 cc3
            refine (iEff _ _ m c0 c1 c2 c3 s e _ (HM.out.below HB6.out) (HS.out.below HB6.out) HFIT.out).mono ?_
            rintro r w9 ⟨u, rfl, hb, hu⟩
            have HR9 : Hid (Bk w9 (w.heap.size + 1 + 1 + 1) 54 #[.slice none 0 0, .int .i64 0, .int .i64 0, .slice none 0 0, .slice none 0 0, .int .i64 0]) := HR6.out.below hb
            have HB9 : Hid (Below w.heap.size w w9) := HB6.out.trans (hb.mono HB6.out.size)
            have hz9 : w.heap.size ≤ w6.heap.size := HB6.out.size
            have hzl := HR6.out.lt
            have HU9 : Hid (EfF (fun k => w6.heap.size ≤ k ∧ k < w9.heap.size) w9 u (effR m [c0, c1, c2, c3] s e)) := hu
            obtain ⟨fa, fc, ga, gc, ha, hc, rfl⟩ := hu.form
            clear hb hu
            have r0 := HR9.out.cell (i := 0) rfl
            have r1 := HR9.out.cell (i := 1) rfl
            have r2 := HR9.out.cell (i := 2) rfl
            have r3 := HR9.out.cell (i := 3) rfl
            have r4 := HR9.out.cell (i := 4) rfl
            have r5 := HR9.out.cell (i := 5) rfl
            have rf := HR9.out.free
            generalize effR m [c0, c1, c2, c3] s e = EF at HU9 HANS ⊢
            go_wp2
            clear r0 r1 r2 r3 r4 r5 rf
            obtain ⟨X5, hX5⟩ : ∃ X5, put6 w9 (w.heap.size + 1 + 1 + 1) (.slice fa EF.st.r.length fc) (.int .i64 EF.st.q) (.int .i64 EF.st.d) (.slice ga EF.s.length gc) (.slice ha EF.x.length hc) (.int .i64 EF.k) = X5 := ⟨_, rfl⟩
            have hR := HR9.out.put6 (.slice fa EF.st.r.length fc) (.int .i64 EF.st.q) (.int .i64 EF.st.d) (.slice ga EF.s.length gc) (.slice ha EF.x.length hc) (.int .i64 EF.k)
            have ht := put6_turns w9 (w.heap.size + 1 + 1 + 1) (.slice fa EF.st.r.length fc) (.int .i64 EF.st.q) (.int .i64 EF.st.d) (.slice ga EF.s.length gc) (.slice ha EF.x.length hc) (.int .i64 EF.k)
            rw [hX5] at hR ht
            unfold put6 at hX5
            rw [hX5]
            have t0 := hR.cell (i := 0) rfl
            have t1 := hR.cell (i := 1) rfl
            have t2 := hR.cell (i := 2) rfl
            have t3 := hR.cell (i := 3) rfl
            have t4 := hR.cell (i := 4) rfl
            have t5 := hR.cell (i := 5) rfl
            have hs5 := ht.size
            have hs9 := HB9.out.size
            refine bodyPost_ret (v := .tuple #[.agg #[.slice fa EF.st.r.length fc, .int .i64 EF.st.q, .int .i64 EF.st.d, .slice ga EF.s.length gc, .slice ha EF.x.length hc, .int .i64 EF.k], .bool true]) (by simp [results, Tryz.results24, go_sem, t0, t1, t2, t3, t4, t5]) rfl ⟨_, by rw [HYES.out], HB9.out.trans (ht.to_below (fun k e => by omega) HB9.out.size), ?_⟩
            rw [HANS.out]
            exact (HU9.out.turns ht (fun k e => by omega)).mono (fun k e => by omega)
end Go.Proofs.YtmpoffepoafblaaGreat

/- laws.sameInts: are two rows of numbers the same? -/
namespace Go.Proofs.YtmpoffepoafblaaGreat
open Go.RowKit
theorem ints_ext {l r : List Int} (hl : l.length = r.length) (h : ∀ j, j < l.length → intAt l j = intAt r j) : l = r := by
  refine List.ext_getElem hl fun j h1 h2 => ?_
  have := h j h1
  simpa [intAt, h1, h2] using this
theorem ints_no {l r : List Int} {j : Nat} (h : intAt l j ≠ intAt r j) : decide (l = r) = false := by
  simp only [decide_eq_false_iff_not]
  intro e
  exact h (by rw [e])
set_option maxRecDepth 100000 in
set_option maxHeartbeats 2000000 in
theorem sameI_any (x y : Value) (l r : List Int) (w : World) (hl : l.length ≤ 4611686018427387904) (hr : r.length ≤ 4611686018427387904) (hx : IsI w x l) (hy : IsI w y r) :
    Calls Tryz.prog 33 #[x, y] w fun e w' => e = .returned (.bool (decide (l = r))) ∧ Below w.heap.size w w' := by
  obtain ⟨a, cap, rfl, h1, h2, h⟩ := hx
  obtain ⟨a', cap', rfl, h1', h2', h'⟩ := hy
  clear h1 h2 h1' h2'
  by_cases hn : l.length = r.length
  · have HN : Hid (l.length = r.length) := hn
    rw [← hn]
    by_cases hz : l = []
    · subst hz
      have hz2 : r = [] := List.eq_nil_of_length_eq_zero (by simpa using hn.symm)
      subst hz2
      clear h h' hn HN
      go_enter Tryz.func33, Tryz.ntmps33
      go_wp2
      go_loop [5] (fun i => i = .int .i64 0) (fun _ => 0)
      case atStart => rfl
      case round =>
        subst hrel
        go_wp2
        go_ret
        exact ⟨by simp, Below.refl _ _⟩
    · obtain ⟨b, off, rfl, hb, hc⟩ := h.resolve_left hz
      obtain ⟨b', off', rfl, hb', hc'⟩ := h'.resolve_left (fun e => hz (by rw [e] at hn; exact List.eq_nil_of_length_eq_zero (by simpa using hn)))
      clear h h' hz hn
      go_enter Tryz.func33, Tryz.ntmps33
      go_wp2
      go_loopw [5] (fun i wr => ∃ k : Nat, k ≤ l.length ∧ i = .int .i64 k ∧ Below w.heap.size w wr ∧ Hid (∀ j, j < k → intAt l j = intAt r j)) (fun i _ => l.length - (intOf i).toNat)
      case atStart => exact ⟨0, Nat.zero_le _, rfl, Below.refl _ _, fun j hj => absurd hj (by omega)⟩
      case round =>
        obtain ⟨k, hk, rfl, hB, HS⟩ := hrel
        have HB : Hid (Below w.heap.size w wr) := hB
        by_cases hlt : k < l.length
        · have f0 := (hB.cell (p := ⟨b, off + k, none⟩) hb).trans (hc k hlt)
          have e0 := (hB.cell (p := ⟨b', off' + k, none⟩) hb').trans (hc' k (by have := HN.out; omega))
          obtain ⟨z, hz⟩ : ∃ z, intAt l k = z := ⟨_, rfl⟩
          obtain ⟨z', hz'⟩ : ∃ z, intAt r k = z := ⟨_, rfl⟩
          have HZ : Hid (intAt l k = z) := hz
          have HZ' : Hid (intAt r k = z') := hz'
          rw [hz] at f0
          rw [hz'] at e0
          clear hB hc hc' hz hz'
          by_cases hzz : z = z'
          · subst hzz
            go_wp2_with fail
            go_region_held3 (fun W => W.cell? ⟨b, off + k, none⟩ = some (.int .i64 z) ∧ W.cell? ⟨b', off' + k, none⟩ = some (.int .i64 z)) ((repeat' apply And.intro) <;> go_keep) (fail)
            go_wp2
            go_roundw
            case rel =>
              refine ⟨k + 1, by omega, by go_num, HB.out.drew, fun j hj => ?_⟩
              by_cases hjk : j < k
              · exact HS.out j hjk
              · obtain rfl : k = j := by omega
                exact HZ.out.trans HZ'.out.symm
            case measure => simp [intOf]; omega
          · have HD : Hid (decide (l = r) = false) := ints_no (j := k) (by rw [HZ.out, HZ'.out]; exact hzz)
            have hq : (z != z') = true := by simp [hzz]
            go_wp2_with fail
            go_region_held3 (fun W => W.cell? ⟨b, off + k, none⟩ = some (.int .i64 z) ∧ W.cell? ⟨b', off' + k, none⟩ = some (.int .i64 z')) ((repeat' apply And.intro) <;> go_keep) (fail)
            go_wp2
            go_ret
            exact ⟨congrArg (fun b => Ending.returned (.bool b)) HD.out.symm, HB.out.drew⟩
        · have HD : Hid (decide (l = r) = true) := by
            show decide (l = r) = true
            have hkl : k = l.length := by omega
            rw [hkl] at HS
            simp only [decide_eq_true_eq]
            exact ints_ext HN.out HS.out
          clear hB hc hc'
          go_wp2
          go_ret
          exact ⟨congrArg (fun b => Ending.returned (.bool b)) HD.out.symm, HB.out⟩
  · have hd : decide (l = r) = false := by
      simp only [decide_eq_false_iff_not]
      intro e
      exact hn (by rw [e])
    rw [hd]
    clear h h' hd
    have hq : ((l.length : Int) != (r.length : Int)) = true := by simp; omega
    go_enter Tryz.func33, Tryz.ntmps33
    go_wp2
    go_ret
    exact ⟨rfl, Below.refl _ _⟩
end Go.Proofs.YtmpoffepoafblaaGreat

