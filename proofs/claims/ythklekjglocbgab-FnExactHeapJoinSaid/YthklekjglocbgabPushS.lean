/- The specification's l0push. -/
import Derived.Test.YthklekjglocbgabOwnS
import Derived.Test.YthklekjglocbgabUpS
import Derived.Deep.RegionHeld3
import Derived.Deep.Cut
namespace Go.Proofs.Ythklekjglocbgab
open Go.RowKit
set_option maxRecDepth 100000 in
set_option maxHeartbeats 8000000 in
theorem sPush_any (x : Value) (l : List Ev) (e : Ev) (w : World) (hl : l.length ≤ 1048576) (hI : Src w x l) :
    Calls Try.prog 35 #[x, .agg #[.int .i64 e.t, .int .i64 e.s, .int .i64 e.q, .int .i64 e.d, .int .i64 e.k, .int .i64 e.v, .int .i64 e.g]] w fun r w' => ∃ y, r = .returned y ∧ OwnR w.heap.size w' y (pushL l e) ∧ Below w.heap.size w w' := by
  obtain ⟨i0, hi, hz0, hz1, hz2⟩ := info_parts info25
  have hB0 : Below w.heap.size w (w.alloc (.cells #[.int .i64 e.t, .int .i64 e.s, .int .i64 e.q, .int .i64 e.d, .int .i64 e.k, .int .i64 e.v, .int .i64 e.g] 33)) := (Below.refl _ w).alloc (Nat.le_refl _) _
  have HI : Hid (Src (w.alloc (.cells #[.int .i64 e.t, .int .i64 e.s, .int .i64 e.q, .int .i64 e.d, .int .i64 e.k, .int .i64 e.v, .int .i64 e.g] 33)) x l) := hI.below hB0
  have HE : Hid (Ev.In (w.alloc (.cells #[.int .i64 e.t, .int .i64 e.s, .int .i64 e.q, .int .i64 e.d, .int .i64 e.k, .int .i64 e.v, .int .i64 e.g] 33)) w.heap.size 0 e) := newE w e
  have hzs : w.heap.size < (w.alloc (.cells #[.int .i64 e.t, .int .i64 e.s, .int .i64 e.q, .int .i64 e.d, .int .i64 e.k, .int .i64 e.v, .int .i64 e.g] 33)).heap.size := by simp
  have HB0 : Hid (Below w.heap.size w (w.alloc (.cells #[.int .i64 e.t, .int .i64 e.s, .int .i64 e.q, .int .i64 e.d, .int .i64 e.k, .int .i64 e.v, .int .i64 e.g] 33))) := hB0
  clear hI hB0
  go_enter Try.func35, Try.ntmps35
  go_upto_region 1 with fail
  generalize w.alloc (.cells #[.int .i64 e.t, .int .i64 e.s, .int .i64 e.q, .int .i64 e.d, .int .i64 e.k, .int .i64 e.v, .int .i64 e.g] 33) = W at *
  generalize hbx : w.heap.size = bx at *
  obtain ⟨f0, f1, f2, f3, f4, f5, f6⟩ := HE.out.lits
  have HOWN : Hid (∀ W' : World, Below W.heap.size W W' → Calls Try.prog 33 #[x] W' fun r w' => ∃ y, r = .returned y ∧ OwnR W.heap.size w' y l ∧ Below W'.heap.size W' w' ∧ Below W.heap.size W w' ∧ Ev.In w' bx 0 e) := fun W' hb => by
    refine (own_row x l W' (by omega) (HI.out.below hb)).mono ?_
    rintro r w' ⟨y, rfl, hy, hb2⟩
    have hb3 : Below W.heap.size W w' := hb.trans (hb2.mono hb.size)
    exact ⟨y, rfl, hy.mono hb.size, hb2, hb3, HE.out.below hb3 hzs⟩
  have hbW : bx ≠ W.heap.size := by omega
  have HF : Hid (∀ (w1 w2 : World) (y v2 : Value) (n : Nat), OwnR W.heap.size w1 y l → Ev.In w1 bx 0 e → Below W.heap.size W w1 → w1.grownBy w2 y.ownBlock → w2.ownsRow W.heap.size 33 7 v2 (l.length + 1) (cellsL l ++ e.cs) → Ev.In w2 bx 0 e ∧ Below W.heap.size W w2 ∧ OwnR W.heap.size w2 v2 (l ++ [e])) := fun w1 w2 y v2 n hy hE hb hg ho => by
    have hlt : bx < w1.heap.size := Nat.lt_of_lt_of_le hzs hb.size
    have hblk : w2.heap[bx]? = w1.heap[bx]? := hg.block bx hlt (fun er => by have := row_ge hy er.symm; omega)
    have hc : ∀ o, w2.cell? ⟨bx, o, none⟩ = w1.cell? ⟨bx, o, none⟩ := fun o => World.cell?_of_block (w := w1) hblk
    refine ⟨⟨(hc _).trans hE.f0, (hc _).trans hE.f1, (hc _).trans hE.f2, (hc _).trans hE.f3, (hc _).trans hE.f4, (hc _).trans hE.f5, (hc _).trans hE.f6⟩, hb.grown hg hb.size (fun k er => row_ge hy er), ?_⟩
    unfold OwnR
    rw [List.length_append, cellsL_append]
    simpa [cellsL] using ho
  go_region_held3 (fun V => V.cell? ⟨bx, 0, none⟩ = some (.int .i64 e.t) ∧ V.cell? ⟨bx, 1, none⟩ = some (.int .i64 e.s) ∧ V.cell? ⟨bx, 2, none⟩ = some (.int .i64 e.q) ∧ V.cell? ⟨bx, 3, none⟩ = some (.int .i64 e.d) ∧ V.cell? ⟨bx, 4, none⟩ = some (.int .i64 e.k) ∧ V.cell? ⟨bx, 5, none⟩ = some (.int .i64 e.v) ∧ V.cell? ⟨bx, 6, none⟩ = some (.int .i64 e.g)) (go_keep)
    (first
      | (go_at_call 33; refine (HOWN.out _ ?_).mono ?_; (first | exact (Below.refl _ W).drew | exact ((Below.refl _ W).alloc (Nat.le_refl _) _).drew | exact (Below.refl _ W).drew.alloc (Nat.le_refl _) _); rintro r w1 ⟨y, rfl, hy, hb1, hbW1, hE1⟩; obtain ⟨y0, y1, y2, y3, y4, y5, y6⟩ := hE1.lits; have hlt1 : bx < w1.heap.size := Nat.lt_of_lt_of_le hzs hbW1.size; have hbw1 : bx ≠ w1.heap.size := Nat.ne_of_lt hlt1; have hWw1 : W.heap.size ≤ w1.heap.size := hbW1.size)
      | (refine step_append_own rfl (.tmp 7) (.tmp 9) 24 rfl W.heap.size 33 i0 _ 7 56 Try.underlying24 hi hz0 hz1 hz2 rfl (by decide) y l.length (cellsL l) rfl (World.ownsRow.alloc hy _) ⟨w1.heap.size, 0, none⟩ 1 1 e.cs rfl rfl (Ev.In.cells (newE w1 e)) (Ev.cs_one e) (by unfold maxLen; omega) (by omega) (by simp; omega) ?_; intro v2 w2 hown2 hgrow2; obtain ⟨g2, cap2, rfl⟩ := ownsRow_succ hown2; have HX1 : Hid (Ev.In w2 bx 0 e ∧ Below W.heap.size W w2 ∧ OwnR W.heap.size w2 (.slice (some ⟨g2, 0, none⟩) (l.length + 1) cap2) (l ++ [e])) := HF.out _ _ _ _ 0 (World.ownsRow.alloc hy _) (hE1.alloc hlt1 _) (hbW1.alloc hbW1.size _) hgrow2 hown2; clear hown2 hgrow2; obtain ⟨x0, x1, x2, x3, x4, x5, x6⟩ := HX1.out.1.lits)
      | (refine step_append_own rfl (.tmp 7) (.tmp 9) 24 rfl W.heap.size 33 i0 _ 7 56 Try.underlying24 hi hz0 hz1 hz2 rfl (by decide) y l.length (cellsL l) rfl hy ⟨W.heap.size, 0, none⟩ 1 1 e.cs rfl rfl (Ev.In.cells ((newED W e).below hb1 (by simp))) (Ev.cs_one e) (by unfold maxLen; omega) (by omega) hbW1.size ?_; intro v2 w2 hown2 hgrow2; obtain ⟨g2, cap2, rfl⟩ := ownsRow_succ hown2; have HX1 : Hid (Ev.In w2 bx 0 e ∧ Below W.heap.size W w2 ∧ OwnR W.heap.size w2 (.slice (some ⟨g2, 0, none⟩) (l.length + 1) cap2) (l ++ [e])) := HF.out _ _ _ _ 0 hy hE1 hbW1 hgrow2 hown2; clear hown2 hgrow2; obtain ⟨x0, x1, x2, x3, x4, x5, x6⟩ := HX1.out.1.lits))
  all_goals
    have HR : Hid (Row w2 W.heap.size g2 cap2 (l ++ [e])) := by
      have h9 := HX1.out.2.2
      unfold Hid Row
      unfold OwnR at h9
      rw [List.length_append] at h9 ⊢
      exact h9
    have HB2 : Hid (Below W.heap.size W w2) := HX1.out.2.1
    clear HX1 x0 x1 x2 x3 x4 x5 x6
    have HU : Hid (Calls Try.prog 64 #[.slice (some ⟨g2, 0, none⟩) (l.length + 1) cap2, .int .i64 (l.length : Int)] w2 fun r w' => (∃ v, r = .returned v) ∧ Row w' W.heap.size g2 cap2 (pushL l e) ∧ Turns (fun b => b = g2) w2 w') := by
      have h9 := sUp_any W.heap.size g2 cap2 (l ++ [e]) l.length w2 (by simp; omega) HR.out (by simp)
      rw [List.length_append] at h9
      exact h9
    go_wp2_with fail
    refine HU.out.mono ?_
    rintro r w3 ⟨⟨v3, rfl⟩, hr3, ht3⟩
    have HR3 : Hid (Row w3 W.heap.size g2 cap2 (pushL l e)) := hr3
    have HB3 : Hid (Below W.heap.size W w3) := HB2.out.trans (ht3.to_below (fun k er => by subst er; exact hr3.lt.1) HB2.out.size)
    clear hr3 ht3 HU
    go_wp2
    go_ret
    refine ⟨_, rfl, ?_, ?_⟩
    · have h8 := HR3.out
      unfold Row at h8
      have h9 : OwnR W.heap.size w3 (.slice (some ⟨g2, 0, none⟩) (l.length + 1) cap2) (pushL l e) := by
        unfold OwnR
        rw [pushL_length] at h8 ⊢
        exact h8
      rw [hbx]
      exact h9.mono (Nat.le_of_lt hzs)
    · rw [hbx]
      exact HB0.out.trans (HB3.out.mono (Nat.le_of_lt hzs))
end Go.Proofs.Ythklekjglocbgab
