/- PDt -/
import Derived.Test.YtnccenbkpocjgaaGreatExactUnhearG04
import Derived.Deep.Cut
/- What was done, as a stack: its top, and what is popped. -/
namespace Go.Proofs.YtnccenbkpocjgaaGreat
open Go.RowKit
theorem thPDt {P : Program} {md : Region.Mode} {ops : Array Oper} {Q : Exit → Act → World → Prop} {S : World → Prop} {fuel : Nat} {listed : Array Bool} {a : Act} {w : World} (i : Nat) (oi : Oper) (v : Value)
 (h : wpAnyH P md ops Q S fuel (listed.setIfInBounds i true) (a.put oi.dst v) w) (hi : ops[i]? = some oi := by rfl)
 (hs : Region.noSelect ops = true := by kernel_rfl) (hf : Region.free md ops listed i = true := by kernel_rfl) (hr : (Region.ready md ops listed).contains i = true := by kernel_rfl)
 (hQ : ∀ c a w, Q (.panic c) (a.put oi.dst v) w → Q (.panic c) a w := by exact fun _ _ _ h => h)
 (hy : YieldsIf P ops S oi v a := by exact Or.inl ⟨by rfl, by (intro wX hSw; (try dsimp only at hSw); go_simp; (try exact IntWalk.i64_in _ (by omega)))⟩) (hS : S w := by assumption) : wpAnyH P md ops Q S (fuel + 1) listed a w :=
 wpAnyH_take hi hs hf hr hQ hy hS h
theorem hidPDt {p : Prop} (h : p) : Hid p := h
abbrev put12s (w : World) (P : Nat) (v0 v1 v2 v3 v4 v5 v6 v7 v8 v9 v10 v11 : Value) : World := (((((((((((w.setCell ⟨P, 0, none⟩ v0).setCell ⟨P, 1, none⟩ v1).setCell ⟨P, 2, none⟩ v2).setCell ⟨P, 3, none⟩ v3).setCell ⟨P, 4, none⟩ v4).setCell ⟨P, 5, none⟩ v5).setCell ⟨P, 6, none⟩ v6).setCell ⟨P, 7, none⟩ v7).setCell ⟨P, 8, none⟩ v8).setCell ⟨P, 9, none⟩ v9).setCell ⟨P, 10, none⟩ v10).setCell ⟨P, 11, none⟩ v11
theorem put12s_turns (w : World) (P : Nat) (v0 v1 v2 v3 v4 v5 v6 v7 v8 v9 v10 v11 : Value) : Turns (fun b => b = P) w (put12s w P v0 v1 v2 v3 v4 v5 v6 v7 v8 v9 v10 v11) :=
 ((((((((((((put1_turns w P 0 v0).trans (put1_turns _ P 1 v1)).trans (put1_turns _ P 2 v2)).trans (put1_turns _ P 3 v3)).trans (put1_turns _ P 4 v4)).trans (put1_turns _ P 5 v5)).trans (put1_turns _ P 6 v6)).trans (put1_turns _ P 7 v7)).trans (put1_turns _ P 8 v8)).trans (put1_turns _ P 9 v9)).trans (put1_turns _ P 10 v10)).trans (put1_turns _ P 11 v11))
theorem Bk.put12s {w : World} {P : Nat} {T : TypeId} {a0 a1 a2 a3 a4 a5 a6 a7 a8 a9 a10 a11 : Value} (h : Bk w P T #[a0, a1, a2, a3, a4, a5, a6, a7, a8, a9, a10, a11]) (v0 v1 v2 v3 v4 v5 v6 v7 v8 v9 v10 v11 : Value) : Bk (put12s w P v0 v1 v2 v3 v4 v5 v6 v7 v8 v9 v10 v11) P T #[v0, v1, v2, v3, v4, v5, v6, v7, v8, v9, v10, v11] := by
 have h0 : Bk (w.setCell ⟨P, 0, none⟩ v0) P T #[v0, a1, a2, a3, a4, a5, a6, a7, a8, a9, a10, a11] := h.put 0 v0
 have h1 : Bk ((w.setCell ⟨P, 0, none⟩ v0).setCell ⟨P, 1, none⟩ v1) P T #[v0, v1, a2, a3, a4, a5, a6, a7, a8, a9, a10, a11] := h0.put 1 v1
 have h2 : Bk (((w.setCell ⟨P, 0, none⟩ v0).setCell ⟨P, 1, none⟩ v1).setCell ⟨P, 2, none⟩ v2) P T #[v0, v1, v2, a3, a4, a5, a6, a7, a8, a9, a10, a11] := h1.put 2 v2
 have h3 : Bk ((((w.setCell ⟨P, 0, none⟩ v0).setCell ⟨P, 1, none⟩ v1).setCell ⟨P, 2, none⟩ v2).setCell ⟨P, 3, none⟩ v3) P T #[v0, v1, v2, v3, a4, a5, a6, a7, a8, a9, a10, a11] := h2.put 3 v3
 have h4 : Bk (((((w.setCell ⟨P, 0, none⟩ v0).setCell ⟨P, 1, none⟩ v1).setCell ⟨P, 2, none⟩ v2).setCell ⟨P, 3, none⟩ v3).setCell ⟨P, 4, none⟩ v4) P T #[v0, v1, v2, v3, v4, a5, a6, a7, a8, a9, a10, a11] := h3.put 4 v4
 have h5 : Bk ((((((w.setCell ⟨P, 0, none⟩ v0).setCell ⟨P, 1, none⟩ v1).setCell ⟨P, 2, none⟩ v2).setCell ⟨P, 3, none⟩ v3).setCell ⟨P, 4, none⟩ v4).setCell ⟨P, 5, none⟩ v5) P T #[v0, v1, v2, v3, v4, v5, a6, a7, a8, a9, a10, a11] := h4.put 5 v5
 have h6 : Bk (((((((w.setCell ⟨P, 0, none⟩ v0).setCell ⟨P, 1, none⟩ v1).setCell ⟨P, 2, none⟩ v2).setCell ⟨P, 3, none⟩ v3).setCell ⟨P, 4, none⟩ v4).setCell ⟨P, 5, none⟩ v5).setCell ⟨P, 6, none⟩ v6) P T #[v0, v1, v2, v3, v4, v5, v6, a7, a8, a9, a10, a11] := h5.put 6 v6
 have h7 : Bk ((((((((w.setCell ⟨P, 0, none⟩ v0).setCell ⟨P, 1, none⟩ v1).setCell ⟨P, 2, none⟩ v2).setCell ⟨P, 3, none⟩ v3).setCell ⟨P, 4, none⟩ v4).setCell ⟨P, 5, none⟩ v5).setCell ⟨P, 6, none⟩ v6).setCell ⟨P, 7, none⟩ v7) P T #[v0, v1, v2, v3, v4, v5, v6, v7, a8, a9, a10, a11] := h6.put 7 v7
 have h8 : Bk (((((((((w.setCell ⟨P, 0, none⟩ v0).setCell ⟨P, 1, none⟩ v1).setCell ⟨P, 2, none⟩ v2).setCell ⟨P, 3, none⟩ v3).setCell ⟨P, 4, none⟩ v4).setCell ⟨P, 5, none⟩ v5).setCell ⟨P, 6, none⟩ v6).setCell ⟨P, 7, none⟩ v7).setCell ⟨P, 8, none⟩ v8) P T #[v0, v1, v2, v3, v4, v5, v6, v7, v8, a9, a10, a11] := h7.put 8 v8
 have h9 : Bk ((((((((((w.setCell ⟨P, 0, none⟩ v0).setCell ⟨P, 1, none⟩ v1).setCell ⟨P, 2, none⟩ v2).setCell ⟨P, 3, none⟩ v3).setCell ⟨P, 4, none⟩ v4).setCell ⟨P, 5, none⟩ v5).setCell ⟨P, 6, none⟩ v6).setCell ⟨P, 7, none⟩ v7).setCell ⟨P, 8, none⟩ v8).setCell ⟨P, 9, none⟩ v9) P T #[v0, v1, v2, v3, v4, v5, v6, v7, v8, v9, a10, a11] := h8.put 9 v9
 have h10 : Bk (((((((((((w.setCell ⟨P, 0, none⟩ v0).setCell ⟨P, 1, none⟩ v1).setCell ⟨P, 2, none⟩ v2).setCell ⟨P, 3, none⟩ v3).setCell ⟨P, 4, none⟩ v4).setCell ⟨P, 5, none⟩ v5).setCell ⟨P, 6, none⟩ v6).setCell ⟨P, 7, none⟩ v7).setCell ⟨P, 8, none⟩ v8).setCell ⟨P, 9, none⟩ v9).setCell ⟨P, 10, none⟩ v10) P T #[v0, v1, v2, v3, v4, v5, v6, v7, v8, v9, v10, a11] := h9.put 10 v10
 have h11 : Bk ((((((((((((w.setCell ⟨P, 0, none⟩ v0).setCell ⟨P, 1, none⟩ v1).setCell ⟨P, 2, none⟩ v2).setCell ⟨P, 3, none⟩ v3).setCell ⟨P, 4, none⟩ v4).setCell ⟨P, 5, none⟩ v5).setCell ⟨P, 6, none⟩ v6).setCell ⟨P, 7, none⟩ v7).setCell ⟨P, 8, none⟩ v8).setCell ⟨P, 9, none⟩ v9).setCell ⟨P, 10, none⟩ v10).setCell ⟨P, 11, none⟩ v11) P T #[v0, v1, v2, v3, v4, v5, v6, v7, v8, v9, v10, v11] := h10.put 11 v11
 exact h11
abbrev put12z (w : World) (P o : Nat) (v0 v1 v2 v3 v4 v5 v6 v7 v8 v9 v10 v11 : Value) : World := (((((((((((w.setCell ⟨P, o, none⟩ v0).setCell ⟨P, o + 1, none⟩ v1).setCell ⟨P, o + 2, none⟩ v2).setCell ⟨P, o + 3, none⟩ v3).setCell ⟨P, o + 4, none⟩ v4).setCell ⟨P, o + 5, none⟩ v5).setCell ⟨P, o + 6, none⟩ v6).setCell ⟨P, o + 7, none⟩ v7).setCell ⟨P, o + 8, none⟩ v8).setCell ⟨P, o + 9, none⟩ v9).setCell ⟨P, o + 10, none⟩ v10).setCell ⟨P, o + 11, none⟩ v11
theorem put12z_turns (w : World) (P o : Nat) (v0 v1 v2 v3 v4 v5 v6 v7 v8 v9 v10 v11 : Value) : Turns (fun b => b = P) w (put12z w P o v0 v1 v2 v3 v4 v5 v6 v7 v8 v9 v10 v11) :=
 ((((((((((((put1_turns w P o v0).trans (put1_turns _ P (o + 1) v1)).trans (put1_turns _ P (o + 2) v2)).trans (put1_turns _ P (o + 3) v3)).trans (put1_turns _ P (o + 4) v4)).trans (put1_turns _ P (o + 5) v5)).trans (put1_turns _ P (o + 6) v6)).trans (put1_turns _ P (o + 7) v7)).trans (put1_turns _ P (o + 8) v8)).trans (put1_turns _ P (o + 9) v9)).trans (put1_turns _ P (o + 10) v10)).trans (put1_turns _ P (o + 11) v11))
theorem drewCell (w : World) (a : Addr) : w.drew.cell? a = w.cell? a := rfl
theorem drewFrozen (w : World) (a : Addr) : w.drew.frozen? a = w.frozen? a := rfl
theorem put12z_low (w : World) (P o : Nat) (v0 v1 v2 v3 v4 v5 v6 v7 v8 v9 v10 v11 : Value) (X : World) (hX : (put12z w P o v0 v1 v2 v3 v4 v5 v6 v7 v8 v9 v10 v11).drew = X) : ∀ i, i < o → X.cell? ⟨P, i, none⟩ = w.cell? ⟨P, i, none⟩ ∧ X.frozen? ⟨P, i, none⟩ = w.frozen? ⟨P, i, none⟩ := by
 intro i h
 rw [← hX, drewCell, drewFrozen]
 exact ⟨(cell_other (by omega)).trans ((cell_other (by omega)).trans ((cell_other (by omega)).trans ((cell_other (by omega)).trans ((cell_other (by omega)).trans ((cell_other (by omega)).trans ((cell_other (by omega)).trans ((cell_other (by omega)).trans ((cell_other (by omega)).trans ((cell_other (by omega)).trans ((cell_other (by omega)).trans ((cell_other (by omega))))))))))))), frozen_put.trans (frozen_put.trans (frozen_put.trans (frozen_put.trans (frozen_put.trans (frozen_put.trans (frozen_put.trans (frozen_put.trans (frozen_put.trans (frozen_put.trans (frozen_put.trans (frozen_put)))))))))))⟩
structure PsAt (w : World) (b o : Nat) (q : Ps) (u7 u10 u11 : Value) : Prop where
 f0 : w.cell? ⟨b, o, none⟩ = some (.int .i64 q.e.t)
 f1 : w.cell? ⟨b, o + 1, none⟩ = some (.int .i64 q.e.s)
 f2 : w.cell? ⟨b, o + 2, none⟩ = some (.int .i64 q.e.q)
 f3 : w.cell? ⟨b, o + 3, none⟩ = some (.int .i64 q.e.d)
 f4 : w.cell? ⟨b, o + 4, none⟩ = some (.int .i64 q.e.k)
 f5 : w.cell? ⟨b, o + 5, none⟩ = some (.int .i64 q.e.v)
 f6 : w.cell? ⟨b, o + 6, none⟩ = some (.int .i64 q.e.g)
 f7 : w.cell? ⟨b, o + 7, none⟩ = some (u7)
 f8 : w.cell? ⟨b, o + 8, none⟩ = some (.int .i64 q.b.q)
 f9 : w.cell? ⟨b, o + 9, none⟩ = some (.int .i64 q.b.d)
 f10 : w.cell? ⟨b, o + 10, none⟩ = some (u10)
 f11 : w.cell? ⟨b, o + 11, none⟩ = some (u11)
theorem PsAt.below {w w' : World} {b o : Nat} {q : Ps} {u7 u10 u11 : Value} (h : PsAt w b o q u7 u10 u11) (hb : Below w.heap.size w w') (hlt : b < w.heap.size) : PsAt w' b o q u7 u10 u11 :=
 ⟨(hb.cell (p := ⟨b, o, none⟩) hlt).trans h.f0, (hb.cell (p := ⟨b, o + 1, none⟩) hlt).trans h.f1, (hb.cell (p := ⟨b, o + 2, none⟩) hlt).trans h.f2, (hb.cell (p := ⟨b, o + 3, none⟩) hlt).trans h.f3, (hb.cell (p := ⟨b, o + 4, none⟩) hlt).trans h.f4, (hb.cell (p := ⟨b, o + 5, none⟩) hlt).trans h.f5, (hb.cell (p := ⟨b, o + 6, none⟩) hlt).trans h.f6, (hb.cell (p := ⟨b, o + 7, none⟩) hlt).trans h.f7, (hb.cell (p := ⟨b, o + 8, none⟩) hlt).trans h.f8, (hb.cell (p := ⟨b, o + 9, none⟩) hlt).trans h.f9, (hb.cell (p := ⟨b, o + 10, none⟩) hlt).trans h.f10, (hb.cell (p := ⟨b, o + 11, none⟩) hlt).trans h.f11⟩
theorem PsAt.turns {S : Nat → Prop} {w w' : World} {b o : Nat} {q : Ps} {u7 u10 u11 : Value} (h : PsAt w b o q u7 u10 u11) (ht : Turns S w w') (hlt : b < w.heap.size) (hS : ¬ S b) : PsAt w' b o q u7 u10 u11 :=
 ⟨(ht.cell hlt hS).trans h.f0, (ht.cell hlt hS).trans h.f1, (ht.cell hlt hS).trans h.f2, (ht.cell hlt hS).trans h.f3, (ht.cell hlt hS).trans h.f4, (ht.cell hlt hS).trans h.f5, (ht.cell hlt hS).trans h.f6, (ht.cell hlt hS).trans h.f7, (ht.cell hlt hS).trans h.f8, (ht.cell hlt hS).trans h.f9, (ht.cell hlt hS).trans h.f10, (ht.cell hlt hS).trans h.f11⟩
theorem Turns.mono4 {w w4 x5 w6 w7 : World} {b D : Nat} (h1 : Below w.heap.size w w4) (h2 : Turns (fun q => q = b) w4 x5) (h3 : Turns (fun q => q = D) x5 w6) (h4 : Turns (fun q => q = w.heap.size) w6 w7) : Turns (fun q => q = D ∨ q = b) w w7 :=
 ((((Turns.of_below h1).trans (h2.mono (fun k e => .inr e))).trans (h3.mono (fun k e => .inl e)))).belowT (h4.to_below (fun k e => by rw [e]; exact Nat.le_refl _) (Nat.le_trans h1.size (Nat.le_trans h2.size h3.size)))
set_option maxRecDepth 100000 in
set_option maxHeartbeats 8000000 in
theorem top_none (D cap : Nat) (a : Option Addr) (v0 v1 v2 v3 v5 v6 v7 : Value) (w : World) (hB : Bk w D 157 #[v0, v1, v2, v3, .slice a 0 cap, v5, v6, v7]) :
  Calls Tryz.prog 168 #[.pointer (some ⟨D, 4, none⟩)] w fun r w' => r = .returned (.tuple #[.agg #[.int .i64 0, .int .i64 0, .int .i64 0, .int .i64 0, .int .i64 0, .int .i64 0, .int .i64 0, .slice none 0 0, .int .i64 0, .int .i64 0, .slice none 0 0, .slice none 0 0], .bool false]) ∧ Below w.heap.size w w' := by
 have x4 := hB.cell (i := 4) rfl
 have hne := hB.lt
 have hne2 : D ≠ w.heap.size := by omega
 go_enter Tryz.func168, Tryz.ntmps168
 go_wp2
 refine bodyPost_ret (v := .tuple #[.agg #[.int .i64 0, .int .i64 0, .int .i64 0, .int .i64 0, .int .i64 0, .int .i64 0, .int .i64 0, .slice none 0 0, .int .i64 0, .int .i64 0, .slice none 0 0, .slice none 0 0], .bool false]) (by simp [results, Tryz.results168, go_sem]) rfl ⟨rfl, ?_⟩
 exact ((Below.refl _ w).alloc (Nat.le_refl _) _).alloc (by simp) _
set_option maxRecDepth 100000 in
set_option maxHeartbeats 16000000 in
theorem top_last (D b n k cap : Nat) (v0 v1 v2 v3 v5 v6 v7 : Value) (q : Ps) (a7 a10 a11 : Option Addr) (c7 c10 c11 : Nat) (w : World) (hn : n = k + 1) (hc : n ≤ 1048577) (hb : b < w.heap.size) (hB : Bk w D 157 #[v0, v1, v2, v3, .slice (some ⟨b, 0, none⟩) n cap, v5, v6, v7]) (hP : PsAt w b (k * 12) q (.slice a7 q.b.r.length c7) (.slice a10 q.s.length c10) (.slice a11 q.x.length c11)) :
  Calls Tryz.prog 168 #[.pointer (some ⟨D, 4, none⟩)] w fun r w' => r = .returned (.tuple #[.agg #[.int .i64 q.e.t, .int .i64 q.e.s, .int .i64 q.e.q, .int .i64 q.e.d, .int .i64 q.e.k, .int .i64 q.e.v, .int .i64 q.e.g, .slice a7 q.b.r.length c7, .int .i64 q.b.q, .int .i64 q.b.d, .slice a10 q.s.length c10, .slice a11 q.x.length c11], .bool true]) ∧ Below w.heap.size w w' := by
 have HN : Hid (n = k + 1) := hn
 obtain ⟨W1, hW1⟩ : ∃ V, w.alloc (.cells #[.int .i64 0, .int .i64 0, .int .i64 0, .int .i64 0, .int .i64 0, .int .i64 0, .int .i64 0, .slice none 0 0, .int .i64 0, .int .i64 0, .slice none 0 0, .slice none 0 0] 126) = V := ⟨_, rfl⟩
 have hb1 : Below w.heap.size w W1 := hW1 ▸ (Below.refl _ w).alloc (Nat.le_refl _) _
 have HB1 := hidPDt hb1
 have HD1 := hidPDt (hB.below hb1)
 have HP1 := hidPDt (hP.below hb1 hb)
 have HR1 : Hid (Bk W1 w.heap.size 126 #[.int .i64 0, .int .i64 0, .int .i64 0, .int .i64 0, .int .i64 0, .int .i64 0, .int .i64 0, .slice none 0 0, .int .i64 0, .int .i64 0, .slice none 0 0, .slice none 0 0]) := hW1 ▸ Bk.new _ _ _
 have HW1 := hidPDt hW1
 have hD := hB.lt
 have hbW : b < W1.heap.size := Nat.lt_of_lt_of_le hb hb1.size
 have x4 := HD1.out.cell (i := 4) rfl
 have hz : ((n : Int) == 0) = false := beq_eq_false_iff_ne.2 (by omega)
 have ek : ((n : Int) - 1).toNat = k := by omega
 have ek1 : (1 : Int) ≤ (n : Int) := by omega
 have ek2 : (n : Int) - 1 < (n : Int) := by omega
 clear hn hB hP hb1 hW1
 go_enter Tryz.func168, Tryz.ntmps168
 go_upto_region 1 with fail
 rw [HW1.out]
 clear HW1
 go_wp2_with fail
 refine wp_region_held_drew (S := fun W => W.cell? ⟨D, 4, none⟩ = some (.slice (some ⟨b, 0, none⟩) n cap) ∧ W.cell? ⟨b, k * 12, none⟩ = some (.int .i64 q.e.t) ∧ W.cell? ⟨b, k * 12 + 1, none⟩ = some (.int .i64 q.e.s) ∧ W.cell? ⟨b, k * 12 + 2, none⟩ = some (.int .i64 q.e.q) ∧ W.cell? ⟨b, k * 12 + 3, none⟩ = some (.int .i64 q.e.d) ∧ W.cell? ⟨b, k * 12 + 4, none⟩ = some (.int .i64 q.e.k) ∧ W.cell? ⟨b, k * 12 + 5, none⟩ = some (.int .i64 q.e.v) ∧ W.cell? ⟨b, k * 12 + 6, none⟩ = some (.int .i64 q.e.g) ∧ W.cell? ⟨b, k * 12 + 7, none⟩ = some (.slice a7 q.b.r.length c7) ∧ W.cell? ⟨b, k * 12 + 8, none⟩ = some (.int .i64 q.b.q) ∧ W.cell? ⟨b, k * 12 + 9, none⟩ = some (.int .i64 q.b.d) ∧ W.cell? ⟨b, k * 12 + 10, none⟩ = some (.slice a10 q.s.length c10) ∧ W.cell? ⟨b, k * 12 + 11, none⟩ = some (.slice a11 q.x.length c11)) (by kernel_rfl) ⟨HD1.out.drew.cell rfl, HP1.out.f0, HP1.out.f1, HP1.out.f2, HP1.out.f3, HP1.out.f4, HP1.out.f5, HP1.out.f6, HP1.out.f7, HP1.out.f8, HP1.out.f9, HP1.out.f10, HP1.out.f11⟩ (fun hHeld => ?_)
 refine thPDt 0 { dst := some 12, op := Op.move (Operand.tmp 0), type := 213, pos := _, after := _, guard := none } (.pointer (some ⟨D, 4, none⟩)) ?_
 try simp only [Act.put, List.setIfInBounds_toArray, List.set_cons_zero, List.set_cons_succ]
 refine thPDt 1 { dst := some 13, op := Op.nilCheck (Operand.tmp 12), type := 0, pos := _, after := _, guard := none } (.pointer (some ⟨D, 4, none⟩)) ?_
 try simp only [Act.put, List.setIfInBounds_toArray, List.set_cons_zero, List.set_cons_succ]
 refine thPDt 2 { dst := some 14, op := Op.fieldAddr 153 (Operand.tmp 13) 0, type := 0, pos := _, after := _, guard := none } (.pointer (some ⟨D, 4, none⟩)) ?_
 try simp only [Act.put, List.setIfInBounds_toArray, List.set_cons_zero, List.set_cons_succ]
 refine thPDt 3 { dst := some 15, op := Op.load 30 (Operand.tmp 14), type := 30, pos := _, after := _, guard := none } (.slice (some ⟨b, 0, none⟩) n cap) ?_
 try simp only [Act.put, List.setIfInBounds_toArray, List.set_cons_zero, List.set_cons_succ]
 refine thPDt 4 { dst := some 16, op := Op.move (Operand.tmp 0), type := 213, pos := _, after := _, guard := none } (.pointer (some ⟨D, 4, none⟩)) ?_
 try simp only [Act.put, List.setIfInBounds_toArray, List.set_cons_zero, List.set_cons_succ]
 refine thPDt 5 { dst := some 17, op := Op.nilCheck (Operand.tmp 16), type := 0, pos := _, after := _, guard := none } (.pointer (some ⟨D, 4, none⟩)) ?_
 try simp only [Act.put, List.setIfInBounds_toArray, List.set_cons_zero, List.set_cons_succ]
 refine thPDt 6 { dst := some 18, op := Op.fieldAddr 153 (Operand.tmp 17) 0, type := 0, pos := _, after := _, guard := none } (.pointer (some ⟨D, 4, none⟩)) ?_
 try simp only [Act.put, List.setIfInBounds_toArray, List.set_cons_zero, List.set_cons_succ]
 refine thPDt 7 { dst := some 19, op := Op.load 30 (Operand.tmp 18), type := 30, pos := _, after := _, guard := none } (.slice (some ⟨b, 0, none⟩) n cap) ?_
 try simp only [Act.put, List.setIfInBounds_toArray, List.set_cons_zero, List.set_cons_succ]
 refine thPDt 8 { dst := some 20, op := Op.call { callee := Callee.builtin Builtin.len, args := #[Operand.tmp 19], argTypes := #[30] }, type := 3, pos := _, after := _, guard := none } (.int .i64 (n : Int)) ?_
 try simp only [Act.put, List.setIfInBounds_toArray, List.set_cons_zero, List.set_cons_succ]
 refine thPDt 9 { dst := some 21, op := Op.binOp BinOp.sub 3 (Operand.tmp 20) (Operand.const (Value.int IntKind.i64 1)) 3, type := 3, pos := _, after := _, guard := none } (.int .i64 ((n : Int) - 1)) ?_
 try simp only [Act.put, List.setIfInBounds_toArray, List.set_cons_zero, List.set_cons_succ]
 refine thPDt 10 { dst := some 22, op := Op.indexAddr 30 (Operand.tmp 15) (Operand.tmp 21), type := 0, pos := _, after := _, guard := none } (.pointer (some ⟨b, k * 12, none⟩)) ?_
 try simp only [Act.put, List.setIfInBounds_toArray, List.set_cons_zero, List.set_cons_succ]
 refine thPDt 11 { dst := some 23, op := Op.load 126 (Operand.tmp 22), type := 126, pos := _, after := _, guard := none } (.agg #[.int .i64 q.e.t, .int .i64 q.e.s, .int .i64 q.e.q, .int .i64 q.e.d, .int .i64 q.e.k, .int .i64 q.e.v, .int .i64 q.e.g, .slice a7 q.b.r.length c7, .int .i64 q.b.q, .int .i64 q.b.d, .slice a10 q.s.length c10, .slice a11 q.x.length c11]) ?_
 try simp only [Act.put, List.setIfInBounds_toArray, List.set_cons_zero, List.set_cons_succ]
 refine wpAnyH_ready (rs := [12]) (by kernel_rfl) (by simp) ?_
 refine AllReadyH.cons (o := { dst := none, op := Op.store 126 (Operand.tmp 2) (Operand.tmp 23), type := 0, pos := _, after := _, guard := none }) rfl (fun K hK => ?_) AllReadyH.nil
 have z0 := HR1.out.cell (i := 0) rfl
 have z1 := HR1.out.cell (i := 1) rfl
 have z2 := HR1.out.cell (i := 2) rfl
 have z3 := HR1.out.cell (i := 3) rfl
 have z4 := HR1.out.cell (i := 4) rfl
 have z5 := HR1.out.cell (i := 5) rfl
 have z6 := HR1.out.cell (i := 6) rfl
 have z7 := HR1.out.cell (i := 7) rfl
 have z8 := HR1.out.cell (i := 8) rfl
 have z9 := HR1.out.cell (i := 9) rfl
 have z10 := HR1.out.cell (i := 10) rfl
 have z11 := HR1.out.cell (i := 11) rfl
 have zf := HR1.out.free
 obtain ⟨X5, hX5⟩ : ∃ X5, (put12s W1 w.heap.size (.int .i64 q.e.t) (.int .i64 q.e.s) (.int .i64 q.e.q) (.int .i64 q.e.d) (.int .i64 q.e.k) (.int .i64 q.e.v) (.int .i64 q.e.g) (.slice a7 q.b.r.length c7) (.int .i64 q.b.q) (.int .i64 q.b.d) (.slice a10 q.s.length c10) (.slice a11 q.x.length c11)).drew = X5 := ⟨_, rfl⟩
 have hP := (HR1.out.put12s (.int .i64 q.e.t) (.int .i64 q.e.s) (.int .i64 q.e.q) (.int .i64 q.e.d) (.int .i64 q.e.k) (.int .i64 q.e.v) (.int .i64 q.e.g) (.slice a7 q.b.r.length c7) (.int .i64 q.b.q) (.int .i64 q.b.d) (.slice a10 q.s.length c10) (.slice a11 q.x.length c11)).drew
 have ht := (put12s_turns W1 w.heap.size (.int .i64 q.e.t) (.int .i64 q.e.s) (.int .i64 q.e.q) (.int .i64 q.e.d) (.int .i64 q.e.k) (.int .i64 q.e.v) (.int .i64 q.e.g) (.slice a7 q.b.r.length c7) (.int .i64 q.b.q) (.int .i64 q.b.d) (.slice a10 q.s.length c10) (.slice a11 q.x.length c11)).drew
 rw [hX5] at hP ht
 unfold put12s at hX5
 have HX5 : Hid _ := hX5
 have HP5 := hidPDt hP
 have HT5 := hidPDt ht
 have QX := hidPDt (HD1.out.turns ht (by omega))
 have PX5 := hidPDt (HP1.out.turns ht hbW (by show ¬ b = w.heap.size; omega))
 clear hX5 hP ht
 go_simp
 clear zf z0 z1 z2 z3 z4 z5 z6 z7 z8 z9 z10 z11
 rw [HX5.out]
 refine hK.out _ _ ⟨QX.out.cell rfl, PX5.out.f0, PX5.out.f1, PX5.out.f2, PX5.out.f3, PX5.out.f4, PX5.out.f5, PX5.out.f6, PX5.out.f7, PX5.out.f8, PX5.out.f9, PX5.out.f10, PX5.out.f11⟩ (fun hHeld => ?_)
 clear hK K
 try simp only [Act.put, List.setIfInBounds_toArray, List.set_cons_zero, List.set_cons_succ]
 refine thPDt 13 { dst := some 3, op := Op.assign (Operand.const (Value.bool true)), type := 4, pos := _, after := _, guard := none } (.bool true) ?_
 try simp only [Act.put, List.setIfInBounds_toArray, List.set_cons_zero, List.set_cons_succ]
 refine wpAnyH_done (by kernel_rfl) ?_ _
 clear hHeld
 go_wp2
 have t0 := HP5.out.cell (i := 0) rfl
 have t1 := HP5.out.cell (i := 1) rfl
 have t2 := HP5.out.cell (i := 2) rfl
 have t3 := HP5.out.cell (i := 3) rfl
 have t4 := HP5.out.cell (i := 4) rfl
 have t5 := HP5.out.cell (i := 5) rfl
 have t6 := HP5.out.cell (i := 6) rfl
 have t7 := HP5.out.cell (i := 7) rfl
 have t8 := HP5.out.cell (i := 8) rfl
 have t9 := HP5.out.cell (i := 9) rfl
 have t10 := HP5.out.cell (i := 10) rfl
 have t11 := HP5.out.cell (i := 11) rfl
 refine bodyPost_ret (v := .tuple #[.agg #[.int .i64 q.e.t, .int .i64 q.e.s, .int .i64 q.e.q, .int .i64 q.e.d, .int .i64 q.e.k, .int .i64 q.e.v, .int .i64 q.e.g, .slice a7 q.b.r.length c7, .int .i64 q.b.q, .int .i64 q.b.d, .slice a10 q.s.length c10, .slice a11 q.x.length c11], .bool true]) (by simp [results, Tryz.results168, go_sem, t0, t1, t2, t3, t4, t5, t6, t7, t8, t9, t10, t11]) rfl ⟨rfl, ?_⟩
 exact HB1.out.trans (HT5.out.to_below (fun k e => by omega) HB1.out.size)
set_option maxRecDepth 100000 in
set_option maxHeartbeats 16000000 in
theorem pop_last (D b n k cap : Nat) (v0 v1 v2 v3 v5 v6 v7 : Value) (q : Ps) (a7 a10 a11 : Option Addr) (c7 c10 c11 : Nat) (w : World) (hn : n = k + 1) (hc : n ≤ 1048577) (hcap : n ≤ cap ∧ cap ≤ maxLen) (hbD : b ≠ D) (hb : b < w.heap.size) (hB : Bk w D 157 #[v0, v1, v2, v3, .slice (some ⟨b, 0, none⟩) n cap, v5, v6, v7]) (hP : PsAt w b (k * 12) q (.slice a7 q.b.r.length c7) (.slice a10 q.s.length c10) (.slice a11 q.x.length c11)) (hF : ∀ i, i < n * 12 → w.frozen? ⟨b, i, none⟩ = false) :
  Calls Tryz.prog 169 #[.pointer (some ⟨D, 4, none⟩)] w fun r w' => r = .returned (.tuple #[.agg #[.int .i64 q.e.t, .int .i64 q.e.s, .int .i64 q.e.q, .int .i64 q.e.d, .int .i64 q.e.k, .int .i64 q.e.v, .int .i64 q.e.g, .slice a7 q.b.r.length c7, .int .i64 q.b.q, .int .i64 q.b.d, .slice a10 q.s.length c10, .slice a11 q.x.length c11], .bool true]) ∧ Bk w' D 157 #[v0, v1, v2, v3, .slice (some ⟨b, 0, none⟩) k cap, v5, v6, v7] ∧ (∀ i, i < k * 12 → w'.cell? ⟨b, i, none⟩ = w.cell? ⟨b, i, none⟩ ∧ w'.frozen? ⟨b, i, none⟩ = w.frozen? ⟨b, i, none⟩) ∧ Turns (fun q => q = D ∨ q = b) w w' := by
 have HN : Hid (n = k + 1) := hn
 have hmx : cap ≤ 9223372036854775807 := by have := hcap.2; unfold maxLen at this; omega
 have hsl : ∀ w : World, (Instr.sliceAt 30 (.slice (some ⟨b, 0, none⟩) n cap) none (some (.int .i64 ((n : Int) - 1))) none).run Tryz.prog w = .ok (.slice (some ⟨b, 0, none⟩) k cap) w := fun w => by
  rw [show (n : Int) - 1 = (k : Int) from by omega, run_cutTo _ _ _ _ (by omega) w]
  unfold sliced
  rw [if_neg (by omega)]
  simp [Addr.add_lit]
 have hcap1 : n ≤ cap := hcap.1
 clear hcap
 obtain ⟨W1, hW1⟩ : ∃ V, w.alloc (.cells #[.int .i64 0, .int .i64 0, .int .i64 0, .int .i64 0, .int .i64 0, .int .i64 0, .int .i64 0, .slice none 0 0, .int .i64 0, .int .i64 0, .slice none 0 0, .slice none 0 0] 126) = V := ⟨_, rfl⟩
 have hb1 : Below w.heap.size w W1 := hW1 ▸ (Below.refl _ w).alloc (Nat.le_refl _) _
 have HB1 := hidPDt hb1
 have HD1 := hidPDt (hB.below hb1)
 have HP1 := hidPDt (hP.below hb1 hb)
 have HR1 : Hid (Bk W1 w.heap.size 126 #[.int .i64 0, .int .i64 0, .int .i64 0, .int .i64 0, .int .i64 0, .int .i64 0, .int .i64 0, .slice none 0 0, .int .i64 0, .int .i64 0, .slice none 0 0, .slice none 0 0]) := hW1 ▸ Bk.new _ _ _
 have HW1 := hidPDt hW1
 have HF := hidPDt hF
 have hD := hB.lt
 have hs1 : w.heap.size < W1.heap.size := HR1.out.lt
 have ek : ((n : Int) - 1).toNat = k := by omega
 have ek1 : (1 : Int) ≤ (n : Int) := by omega
 have ek2 : (n : Int) - 1 < (n : Int) := by omega
 clear hB hP hb1 hW1 hF
 go_enter Tryz.func169, Tryz.ntmps169
 go_wp2_with fail
 rw [HW1.out]
 clear HW1
 refine (top_last D b n k cap v0 v1 v2 v3 v5 v6 v7 q a7 a10 a11 c7 c10 c11 W1 hn hc (by omega) HD1.out HP1.out).mono ?_
 rintro r w2 ⟨rfl, hb2⟩
 have HB2 := hidPDt (HB1.out.trans (hb2.mono HB1.out.size))
 have hs2 : W1.heap.size ≤ w2.heap.size := hb2.size
 obtain ⟨W3, hW3⟩ : ∃ V, w2.alloc (.cells #[.int .i64 q.e.t, .int .i64 q.e.s, .int .i64 q.e.q, .int .i64 q.e.d, .int .i64 q.e.k, .int .i64 q.e.v, .int .i64 q.e.g, .slice a7 q.b.r.length c7, .int .i64 q.b.q, .int .i64 q.b.d, .slice a10 q.s.length c10, .slice a11 q.x.length c11] 126) = V := ⟨_, rfl⟩
 have hb3 : Below w2.heap.size w2 W3 := hW3 ▸ (Below.refl _ w2).alloc (Nat.le_refl _) _
 have hs3 : w2.heap.size < W3.heap.size := by rw [← hW3]; simp
 obtain ⟨W4, hW4⟩ : ∃ V, W3.alloc (.cells #[.int .i64 0, .int .i64 0, .int .i64 0, .int .i64 0, .int .i64 0, .int .i64 0, .int .i64 0, .slice none 0 0, .int .i64 0, .int .i64 0, .slice none 0 0, .slice none 0 0] 126) = V := ⟨_, rfl⟩
 have hb4 : Below W3.heap.size W3 W4 := hW4 ▸ (Below.refl _ W3).alloc (Nat.le_refl _) _
 have hb14 : Below W1.heap.size W1 W4 := (hb2.trans (hb3.mono hb2.size)).trans (hb4.mono (by omega))
 have HB4 := hidPDt (HB1.out.trans (hb14.mono HB1.out.size))
 have HD4 := hidPDt (HD1.out.below hb14)
 have HP4 := hidPDt (HP1.out.below hb14 (by omega))
 have HR4 := hidPDt (HR1.out.below hb14)
 have HQ4 : Hid (Bk W4 w2.heap.size 126 #[.int .i64 q.e.t, .int .i64 q.e.s, .int .i64 q.e.q, .int .i64 q.e.d, .int .i64 q.e.k, .int .i64 q.e.v, .int .i64 q.e.g, .slice a7 q.b.r.length c7, .int .i64 q.b.q, .int .i64 q.b.d, .slice a10 q.s.length c10, .slice a11 q.x.length c11]) := (show Bk W3 w2.heap.size 126 #[.int .i64 q.e.t, .int .i64 q.e.s, .int .i64 q.e.q, .int .i64 q.e.d, .int .i64 q.e.k, .int .i64 q.e.v, .int .i64 q.e.g, .slice a7 q.b.r.length c7, .int .i64 q.b.q, .int .i64 q.b.d, .slice a10 q.s.length c10, .slice a11 q.x.length c11] from hW3 ▸ Bk.new _ _ _).below hb4
 have HZ4 : Hid (Bk W4 W3.heap.size 126 #[.int .i64 0, .int .i64 0, .int .i64 0, .int .i64 0, .int .i64 0, .int .i64 0, .int .i64 0, .slice none 0 0, .int .i64 0, .int .i64 0, .slice none 0 0, .slice none 0 0]) := hW4 ▸ Bk.new _ _ _
 have hs4 : W3.heap.size < W4.heap.size := HZ4.out.lt
 have hfz : ∀ i, i < n * 12 → W4.frozen? ⟨b, i, none⟩ = false := fun i hi => (HB4.out.frozen (p := ⟨b, i, none⟩) hb).trans (HF.out i hi)
 have HF4 : Hid (W4.frozen? ⟨b, k * 12, none⟩ = false ∧ W4.frozen? ⟨b, k * 12 + 1, none⟩ = false ∧ W4.frozen? ⟨b, k * 12 + 2, none⟩ = false ∧ W4.frozen? ⟨b, k * 12 + 3, none⟩ = false ∧ W4.frozen? ⟨b, k * 12 + 4, none⟩ = false ∧ W4.frozen? ⟨b, k * 12 + 5, none⟩ = false ∧ W4.frozen? ⟨b, k * 12 + 6, none⟩ = false ∧ W4.frozen? ⟨b, k * 12 + 7, none⟩ = false ∧ W4.frozen? ⟨b, k * 12 + 8, none⟩ = false ∧ W4.frozen? ⟨b, k * 12 + 9, none⟩ = false ∧ W4.frozen? ⟨b, k * 12 + 10, none⟩ = false ∧ W4.frozen? ⟨b, k * 12 + 11, none⟩ = false) := ⟨hfz _ (by omega), hfz _ (by omega), hfz _ (by omega), hfz _ (by omega), hfz _ (by omega), hfz _ (by omega), hfz _ (by omega), hfz _ (by omega), hfz _ (by omega), hfz _ (by omega), hfz _ (by omega), hfz _ (by omega)⟩
 have HWW : Hid ((w2.alloc (.cells #[.int .i64 q.e.t, .int .i64 q.e.s, .int .i64 q.e.q, .int .i64 q.e.d, .int .i64 q.e.k, .int .i64 q.e.v, .int .i64 q.e.g, .slice a7 q.b.r.length c7, .int .i64 q.b.q, .int .i64 q.b.d, .slice a10 q.s.length c10, .slice a11 q.x.length c11] 126)).alloc (.cells #[.int .i64 0, .int .i64 0, .int .i64 0, .int .i64 0, .int .i64 0, .int .i64 0, .int .i64 0, .slice none 0 0, .int .i64 0, .int .i64 0, .slice none 0 0, .slice none 0 0] 126) = W4) := by show _ = W4; rw [hW3, hW4]
 have HK : Hid (∀ i, i < k * 12 → W4.cell? ⟨b, i, none⟩ = w.cell? ⟨b, i, none⟩ ∧ W4.frozen? ⟨b, i, none⟩ = w.frozen? ⟨b, i, none⟩) := fun i hi => ⟨HB4.out.cell (p := ⟨b, i, none⟩) hb, HB4.out.frozen (p := ⟨b, i, none⟩) hb⟩
 have HS34 : Hid ((w2.alloc (.cells #[.int .i64 q.e.t, .int .i64 q.e.s, .int .i64 q.e.q, .int .i64 q.e.d, .int .i64 q.e.k, .int .i64 q.e.v, .int .i64 q.e.g, .slice a7 q.b.r.length c7, .int .i64 q.b.q, .int .i64 q.b.d, .slice a10 q.s.length c10, .slice a11 q.x.length c11] 126)).heap.size = W3.heap.size) := by show _ = W3.heap.size; rw [hW3]
 have x4 := HD1.out.cell (i := 4) rfl
 have x4' := (HD1.out.below hb2).cell (i := 4) rfl
 have x4'' := ((HD1.out.below hb2).below hb3).cell (i := 4) rfl
 clear hb2 hb3 hb4 hb14 hfz hn
 go_upto_region 5 with fail
 try rw [HS34.out]
 try rw [HWW.out]
 clear HWW HS34 x4 x4' x4'' hW3 hW4
 refine wp_region_held_drew (S := fun W => W.cell? ⟨D, 4, none⟩ = some (.slice (some ⟨b, 0, none⟩) n cap) ∧ W.cell? ⟨W3.heap.size, 0, none⟩ = some (.int .i64 0) ∧ W.cell? ⟨W3.heap.size, 1, none⟩ = some (.int .i64 0) ∧ W.cell? ⟨W3.heap.size, 2, none⟩ = some (.int .i64 0) ∧ W.cell? ⟨W3.heap.size, 3, none⟩ = some (.int .i64 0) ∧ W.cell? ⟨W3.heap.size, 4, none⟩ = some (.int .i64 0) ∧ W.cell? ⟨W3.heap.size, 5, none⟩ = some (.int .i64 0) ∧ W.cell? ⟨W3.heap.size, 6, none⟩ = some (.int .i64 0) ∧ W.cell? ⟨W3.heap.size, 7, none⟩ = some (.slice none 0 0) ∧ W.cell? ⟨W3.heap.size, 8, none⟩ = some (.int .i64 0) ∧ W.cell? ⟨W3.heap.size, 9, none⟩ = some (.int .i64 0) ∧ W.cell? ⟨W3.heap.size, 10, none⟩ = some (.slice none 0 0) ∧ W.cell? ⟨W3.heap.size, 11, none⟩ = some (.slice none 0 0)) (by kernel_rfl) ⟨HD4.out.drew.cell rfl, HZ4.out.drew.cell rfl, HZ4.out.drew.cell rfl, HZ4.out.drew.cell rfl, HZ4.out.drew.cell rfl, HZ4.out.drew.cell rfl, HZ4.out.drew.cell rfl, HZ4.out.drew.cell rfl, HZ4.out.drew.cell rfl, HZ4.out.drew.cell rfl, HZ4.out.drew.cell rfl, HZ4.out.drew.cell rfl, HZ4.out.drew.cell rfl⟩ (fun hHeld => ?_)
 refine thPDt 0 { dst := some 20, op := Op.move (Operand.tmp 0), type := 213, pos := _, after := _, guard := none } (.pointer (some ⟨D, 4, none⟩)) ?_
 try simp only [Act.put, List.setIfInBounds_toArray, List.set_cons_zero, List.set_cons_succ]
 refine thPDt 1 { dst := some 21, op := Op.nilCheck (Operand.tmp 20), type := 0, pos := _, after := _, guard := none } (.pointer (some ⟨D, 4, none⟩)) ?_
 try simp only [Act.put, List.setIfInBounds_toArray, List.set_cons_zero, List.set_cons_succ]
 refine thPDt 2 { dst := some 22, op := Op.fieldAddr 153 (Operand.tmp 21) 0, type := 0, pos := _, after := _, guard := none } (.pointer (some ⟨D, 4, none⟩)) ?_
 try simp only [Act.put, List.setIfInBounds_toArray, List.set_cons_zero, List.set_cons_succ]
 refine thPDt 3 { dst := some 23, op := Op.load 30 (Operand.tmp 22), type := 30, pos := _, after := _, guard := none } (.slice (some ⟨b, 0, none⟩) n cap) ?_
 try simp only [Act.put, List.setIfInBounds_toArray, List.set_cons_zero, List.set_cons_succ]
 refine thPDt 4 { dst := some 24, op := Op.move (Operand.tmp 6), type := 3, pos := _, after := _, guard := none } (.int .i64 ((n : Int) - 1)) ?_
 try simp only [Act.put, List.setIfInBounds_toArray, List.set_cons_zero, List.set_cons_succ]
 refine thPDt 5 { dst := some 25, op := Op.load 126 (Operand.tmp 7), type := 126, pos := _, after := _, guard := none } (.agg #[.int .i64 0, .int .i64 0, .int .i64 0, .int .i64 0, .int .i64 0, .int .i64 0, .int .i64 0, .slice none 0 0, .int .i64 0, .int .i64 0, .slice none 0 0, .slice none 0 0]) ?_
 try simp only [Act.put, List.setIfInBounds_toArray, List.set_cons_zero, List.set_cons_succ]
 refine thPDt 6 { dst := some 26, op := Op.indexAddr 30 (Operand.tmp 23) (Operand.tmp 24), type := 0, pos := _, after := _, guard := none } (.pointer (some ⟨b, k * 12, none⟩)) ?_
 try simp only [Act.put, List.setIfInBounds_toArray, List.set_cons_zero, List.set_cons_succ]
 refine wpAnyH_ready (rs := [7]) (by kernel_rfl) (by simp) ?_
 refine AllReadyH.cons (o := { dst := none, op := Op.store 126 (Operand.tmp 26) (Operand.tmp 25), type := 0, pos := _, after := _, guard := none }) rfl (fun K hK => ?_) AllReadyH.nil
 obtain ⟨y0, y1, y2, y3, y4, y5, y6, y7, y8, y9, y10, y11⟩ := HP4.out
 obtain ⟨g0, g1, g2, g3, g4, g5, g6, g7, g8, g9, g10, g11⟩ := HF4.out
 obtain ⟨X5, hX5⟩ : ∃ X5, (put12z W4 b (k * 12) (.int .i64 0) (.int .i64 0) (.int .i64 0) (.int .i64 0) (.int .i64 0) (.int .i64 0) (.int .i64 0) (.slice none 0 0) (.int .i64 0) (.int .i64 0) (.slice none 0 0) (.slice none 0 0)).drew = X5 := ⟨_, rfl⟩
 have ht := (put12z_turns W4 b (k * 12) (.int .i64 0) (.int .i64 0) (.int .i64 0) (.int .i64 0) (.int .i64 0) (.int .i64 0) (.int .i64 0) (.slice none 0 0) (.int .i64 0) (.int .i64 0) (.slice none 0 0) (.slice none 0 0)).drew
 have hlo : ∀ i, i < k * 12 → X5.cell? ⟨b, i, none⟩ = W4.cell? ⟨b, i, none⟩ ∧ X5.frozen? ⟨b, i, none⟩ = W4.frozen? ⟨b, i, none⟩ := put12z_low W4 b (k * 12) (.int .i64 0) (.int .i64 0) (.int .i64 0) (.int .i64 0) (.int .i64 0) (.int .i64 0) (.int .i64 0) (.slice none 0 0) (.int .i64 0) (.int .i64 0) (.slice none 0 0) (.slice none 0 0) X5 hX5
 rw [hX5] at ht
 unfold put12z at hX5
 have HX5 : Hid _ := hX5
 have HT5 := hidPDt ht
 have HLO := hidPDt hlo
 have HD5 := hidPDt (HD4.out.turns ht (by omega))
 have HZ5 := hidPDt (HZ4.out.turns ht (by omega))
 have HQ5 := hidPDt (HQ4.out.turns ht (by omega))
 have HR5 := hidPDt (HR4.out.turns ht (by omega))
 clear hX5 ht hlo
 go_simp
 clear g0 g1 g2 g3 g4 g5 g6 g7 g8 g9 g10 g11 y0 y1 y2 y3 y4 y5 y6 y7 y8 y9 y10 y11
 rw [HX5.out]
 refine hK.out _ _ ⟨HD5.out.cell rfl, HZ5.out.cell rfl, HZ5.out.cell rfl, HZ5.out.cell rfl, HZ5.out.cell rfl, HZ5.out.cell rfl, HZ5.out.cell rfl, HZ5.out.cell rfl, HZ5.out.cell rfl, HZ5.out.cell rfl, HZ5.out.cell rfl, HZ5.out.cell rfl, HZ5.out.cell rfl⟩ (fun hHeld => ?_)
 clear hK K
 try simp only [Act.put, List.setIfInBounds_toArray, List.set_cons_zero, List.set_cons_succ]
 refine wpAnyH_done (by kernel_rfl) ?_ _
 clear hHeld
 have y4 := HD5.out.cell (i := 4) rfl
 have yf := HD5.out.free
 obtain ⟨W6, hW6⟩ : ∃ V, X5.setCell ⟨D, 4, none⟩ (.slice (some ⟨b, 0, none⟩) k cap) = V := ⟨_, rfl⟩
 have ht6 := put1_turns X5 D 4 (.slice (some ⟨b, 0, none⟩) k cap)
 have hq6 := HD5.out.put 4 (.slice (some ⟨b, 0, none⟩) k cap)
 rw [hW6] at ht6 hq6
 have HW6 : Hid _ := hW6
 have HD6 := hidPDt hq6
 have HQ6 := hidPDt (HQ5.out.turns ht6 (by omega))
 have HR6 := hidPDt (HR5.out.turns ht6 (by omega))
 have HT6 := hidPDt ht6
 clear hW6 ht6 hq6
 go_upto_region 7 with fail
 rw [HW6.out]
 clear HW6 y4 yf
 have x0 := HQ6.out.cell (i := 0) rfl
 have z0 := HR6.out.cell (i := 0) rfl
 have x1 := HQ6.out.cell (i := 1) rfl
 have z1 := HR6.out.cell (i := 1) rfl
 have x2 := HQ6.out.cell (i := 2) rfl
 have z2 := HR6.out.cell (i := 2) rfl
 have x3 := HQ6.out.cell (i := 3) rfl
 have z3 := HR6.out.cell (i := 3) rfl
 have x4 := HQ6.out.cell (i := 4) rfl
 have z4 := HR6.out.cell (i := 4) rfl
 have x5 := HQ6.out.cell (i := 5) rfl
 have z5 := HR6.out.cell (i := 5) rfl
 have x6 := HQ6.out.cell (i := 6) rfl
 have z6 := HR6.out.cell (i := 6) rfl
 have x7 := HQ6.out.cell (i := 7) rfl
 have z7 := HR6.out.cell (i := 7) rfl
 have x8 := HQ6.out.cell (i := 8) rfl
 have z8 := HR6.out.cell (i := 8) rfl
 have x9 := HQ6.out.cell (i := 9) rfl
 have z9 := HR6.out.cell (i := 9) rfl
 have x10 := HQ6.out.cell (i := 10) rfl
 have z10 := HR6.out.cell (i := 10) rfl
 have x11 := HQ6.out.cell (i := 11) rfl
 have z11 := HR6.out.cell (i := 11) rfl
 have zf := HR6.out.free
 obtain ⟨W7, hW7⟩ : ∃ V, put12s W6 w.heap.size (.int .i64 q.e.t) (.int .i64 q.e.s) (.int .i64 q.e.q) (.int .i64 q.e.d) (.int .i64 q.e.k) (.int .i64 q.e.v) (.int .i64 q.e.g) (.slice a7 q.b.r.length c7) (.int .i64 q.b.q) (.int .i64 q.b.d) (.slice a10 q.s.length c10) (.slice a11 q.x.length c11) = V := ⟨_, rfl⟩
 have hP7 := HR6.out.put12s (.int .i64 q.e.t) (.int .i64 q.e.s) (.int .i64 q.e.q) (.int .i64 q.e.d) (.int .i64 q.e.k) (.int .i64 q.e.v) (.int .i64 q.e.g) (.slice a7 q.b.r.length c7) (.int .i64 q.b.q) (.int .i64 q.b.d) (.slice a10 q.s.length c10) (.slice a11 q.x.length c11)
 have ht7 := put12s_turns W6 w.heap.size (.int .i64 q.e.t) (.int .i64 q.e.s) (.int .i64 q.e.q) (.int .i64 q.e.d) (.int .i64 q.e.k) (.int .i64 q.e.v) (.int .i64 q.e.g) (.slice a7 q.b.r.length c7) (.int .i64 q.b.q) (.int .i64 q.b.d) (.slice a10 q.s.length c10) (.slice a11 q.x.length c11)
 rw [hW7] at hP7 ht7
 unfold put12s at hW7
 have HW7 : Hid _ := hW7
 have HP7 := hidPDt hP7
 have HT7 := hidPDt ht7
 clear hW7 hP7 ht7
 go_wp2
 try rw [HW7.out]
 have t0 := HP7.out.cell (i := 0) rfl
 have t1 := HP7.out.cell (i := 1) rfl
 have t2 := HP7.out.cell (i := 2) rfl
 have t3 := HP7.out.cell (i := 3) rfl
 have t4 := HP7.out.cell (i := 4) rfl
 have t5 := HP7.out.cell (i := 5) rfl
 have t6 := HP7.out.cell (i := 6) rfl
 have t7 := HP7.out.cell (i := 7) rfl
 have t8 := HP7.out.cell (i := 8) rfl
 have t9 := HP7.out.cell (i := 9) rfl
 have t10 := HP7.out.cell (i := 10) rfl
 have t11 := HP7.out.cell (i := 11) rfl
 refine bodyPost_ret (v := .tuple #[.agg #[.int .i64 q.e.t, .int .i64 q.e.s, .int .i64 q.e.q, .int .i64 q.e.d, .int .i64 q.e.k, .int .i64 q.e.v, .int .i64 q.e.g, .slice a7 q.b.r.length c7, .int .i64 q.b.q, .int .i64 q.b.d, .slice a10 q.s.length c10, .slice a11 q.x.length c11], .bool true]) (by simp [results, Tryz.results169, go_sem, t0, t1, t2, t3, t4, t5, t6, t7, t8, t9, t10, t11]) rfl ⟨rfl, HD6.out.turns HT7.out (by omega), fun i hi => ?_, ?_⟩
 ·have h5 : b < X5.heap.size := Nat.lt_of_lt_of_le (by omega) HT5.out.size
  have h6 : b < W6.heap.size := Nat.lt_of_lt_of_le h5 HT6.out.size
  refine ⟨((HT7.out.cell h6 (by show ¬ b = w.heap.size; omega)).trans (HT6.out.cell h5 hbD)).trans (((HLO.out i hi).1).trans (HK.out i hi).1), ((HT7.out.frozen h6 (by show ¬ b = w.heap.size; omega)).trans (HT6.out.frozen h5 hbD)).trans (((HLO.out i hi).2).trans (HK.out i hi).2)⟩
 ·exact Turns.mono4 HB4.out HT5.out HT6.out HT7.out
end Go.Proofs.YtnccenbkpocjgaaGreat
