/- PushS, PushS2, Of, Eqs, Eqs2, OpenS, LawHeapOf -/
import Derived.Test.YthklekjglocbgaaOwnS
import Derived.Test.YthklekjglocbgaaUpS
import Derived.Deep.RegionHeld3
import Derived.Deep.Cut
import Derived.Test.YthklekjglocbgaaDrop
import Derived.Test.YthklekjglocbgaaPushAll
import Derived.Test.YthklekjglocbgaaEvs
import Derived.Test.YthklekjglocbgaaOpen
import Derived.Test.YthklekjglocbgaaFrame
/- The specification's l0push. -/
namespace Go.Proofs.Ythklekjglocbgaa
open Go.RowKit
set_option maxRecDepth 100000 in
set_option maxHeartbeats 8000000 in
theorem sPush_any (x : Value) (l : List Ev) (e : Ev) (w : World) (hl : l.length ≤ 1048576) (hI : Src w x l) :
    Calls Try.prog 35 #[x, .agg #[.int .i64 e.t, .int .i64 e.s, .int .i64 e.q, .int .i64 e.d, .int .i64 e.k, .int .i64 e.v, .int .i64 e.g]] w fun r w' => ∃ y, r = .returned y ∧ OwnR w.heap.size w' y (pushL l e) ∧ Below w.heap.size w w' := by
  obtain ⟨i0, hi, hz0, hz1, hz2⟩ := info_parts info25
  have hB0 : Below w.heap.size w (w.alloc (.cells #[.int .i64 e.t, .int .i64 e.s, .int .i64 e.q, .int .i64 e.d, .int .i64 e.k, .int .i64 e.v, .int .i64 e.g] 33)) := (Below.refl _ w).alloc (Nat.le_refl _) _
  have HI : Hid (Src (w.alloc (.cells #[.int .i64 e.t, .int .i64 e.s, .int .i64 e.q, .int .i64 e.d, .int .i64 e.k, .int .i64 e.v, .int .i64 e.g] 33)) x l) := hI.below hB0
  have HE : Hid (Ev.In (w.alloc (.cells #[.int .i64 e.t, .int .i64 e.s, .int .i64 e.q, .int .i64 e.d, .int .i64 e.k, .int .i64 e.v, .int .i64 e.g] 33)) w.heap.size 0 e) := newE w e
  have hzs : w.heap.size < (w.alloc (.cells #[.int .i64 e.t, .int .i64 e.s, .int .i64 e.q, .int .i64 e.d, .int .i64 e.k, .int .i64 e.v, .int .i64 e.g] 33)).heap.size := by simp
  have HB0 : Hid (Below w.heap.size w (w.alloc (.cells #[.int .i64 e.t, .int .i64 e.s, .int .i64 e.q, .int .i64 e.d, .int .i64 e.k, .int .i64 e.v, .int .i64 e.g] 33))) := hB0
  clear hI hB0
  go_enter Try.func35, Try.ntmps35
  go_upto_region 1 with fail
  generalize w.alloc (.cells #[.int .i64 e.t, .int .i64 e.s, .int .i64 e.q, .int .i64 e.d, .int .i64 e.k, .int .i64 e.v, .int .i64 e.g] 33) = W at *
  generalize hbx : w.heap.size = bx at *
  obtain ⟨f0, f1, f2, f3, f4, f5, f6⟩ := HE.out.lits
  have HOWN : Hid (∀ W' : World, Below W.heap.size W W' → Calls Try.prog 34 #[x] W' fun r w' => ∃ y, r = .returned y ∧ OwnR W.heap.size w' y l ∧ Below W'.heap.size W' w' ∧ Below W.heap.size W w' ∧ Ev.In w' bx 0 e) := fun W' hb => by
    refine (own_row x l W' (by omega) (HI.out.below hb)).mono ?_
    rintro r w' ⟨y, rfl, hy, hb2⟩
    have hb3 : Below W.heap.size W w' := hb.trans (hb2.mono hb.size)
    exact ⟨y, rfl, hy.mono hb.size, hb2, hb3, HE.out.below hb3 hzs⟩
  have hbW : bx ≠ W.heap.size := by omega
  have HF : Hid (∀ (w1 w2 : World) (y v2 : Value) (n : Nat), OwnR W.heap.size w1 y l → Ev.In w1 bx 0 e → Below W.heap.size W w1 → w1.grownBy w2 y.ownBlock → w2.ownsRow W.heap.size 33 7 v2 (l.length + 1) (cellsL l ++ e.cs) → Ev.In w2 bx 0 e ∧ Below W.heap.size W w2 ∧ OwnR W.heap.size w2 v2 (l ++ [e])) := fun w1 w2 y v2 n hy hE hb hg ho => by
    have hlt : bx < w1.heap.size := Nat.lt_of_lt_of_le hzs hb.size
    have hblk : w2.heap[bx]? = w1.heap[bx]? := hg.block bx hlt (fun er => by have := row_ge hy er.symm; omega)
    have hc : ∀ o, w2.cell? ⟨bx, o, none⟩ = w1.cell? ⟨bx, o, none⟩ := fun o => World.cell?_of_block (w := w1) hblk
    refine ⟨⟨(hc _).trans hE.f0, (hc _).trans hE.f1, (hc _).trans hE.f2, (hc _).trans hE.f3, (hc _).trans hE.f4, (hc _).trans hE.f5, (hc _).trans hE.f6⟩, hb.grown hg hb.size (fun k er => row_ge hy er), ?_⟩
    unfold OwnR
    rw [List.length_append, cellsL_append]
    simpa [cellsL] using ho
  go_region_held3 (fun V => V.cell? ⟨bx, 0, none⟩ = some (.int .i64 e.t) ∧ V.cell? ⟨bx, 1, none⟩ = some (.int .i64 e.s) ∧ V.cell? ⟨bx, 2, none⟩ = some (.int .i64 e.q) ∧ V.cell? ⟨bx, 3, none⟩ = some (.int .i64 e.d) ∧ V.cell? ⟨bx, 4, none⟩ = some (.int .i64 e.k) ∧ V.cell? ⟨bx, 5, none⟩ = some (.int .i64 e.v) ∧ V.cell? ⟨bx, 6, none⟩ = some (.int .i64 e.g)) (go_keep)
    (first
      | (go_at_call 34; refine (HOWN.out _ ?_).mono ?_; (first | exact (Below.refl _ W).drew | exact ((Below.refl _ W).alloc (Nat.le_refl _) _).drew | exact (Below.refl _ W).drew.alloc (Nat.le_refl _) _); rintro r w1 ⟨y, rfl, hy, hb1, hbW1, hE1⟩; obtain ⟨y0, y1, y2, y3, y4, y5, y6⟩ := hE1.lits; have hlt1 : bx < w1.heap.size := Nat.lt_of_lt_of_le hzs hbW1.size; have hbw1 : bx ≠ w1.heap.size := Nat.ne_of_lt hlt1; have hWw1 : W.heap.size ≤ w1.heap.size := hbW1.size)
      | (refine step_append_own rfl (.tmp 7) (.tmp 9) 25 rfl W.heap.size 33 i0 _ 7 56 Try.underlying25 hi hz0 hz1 hz2 rfl (by decide) y l.length (cellsL l) rfl (World.ownsRow.alloc hy _) ⟨w1.heap.size, 0, none⟩ 1 1 e.cs rfl rfl (Ev.In.cells (newE w1 e)) (Ev.cs_one e) (by unfold maxLen; omega) (by omega) (by simp; omega) ?_; intro v2 w2 hown2 hgrow2; obtain ⟨g2, cap2, rfl⟩ := ownsRow_succ hown2; have HX1 : Hid (Ev.In w2 bx 0 e ∧ Below W.heap.size W w2 ∧ OwnR W.heap.size w2 (.slice (some ⟨g2, 0, none⟩) (l.length + 1) cap2) (l ++ [e])) := HF.out _ _ _ _ 0 (World.ownsRow.alloc hy _) (hE1.alloc hlt1 _) (hbW1.alloc hbW1.size _) hgrow2 hown2; clear hown2 hgrow2; obtain ⟨x0, x1, x2, x3, x4, x5, x6⟩ := HX1.out.1.lits)
      | (refine step_append_own rfl (.tmp 7) (.tmp 9) 25 rfl W.heap.size 33 i0 _ 7 56 Try.underlying25 hi hz0 hz1 hz2 rfl (by decide) y l.length (cellsL l) rfl hy ⟨W.heap.size, 0, none⟩ 1 1 e.cs rfl rfl (Ev.In.cells ((newED W e).below hb1 (by simp))) (Ev.cs_one e) (by unfold maxLen; omega) (by omega) hbW1.size ?_; intro v2 w2 hown2 hgrow2; obtain ⟨g2, cap2, rfl⟩ := ownsRow_succ hown2; have HX1 : Hid (Ev.In w2 bx 0 e ∧ Below W.heap.size W w2 ∧ OwnR W.heap.size w2 (.slice (some ⟨g2, 0, none⟩) (l.length + 1) cap2) (l ++ [e])) := HF.out _ _ _ _ 0 hy hE1 hbW1 hgrow2 hown2; clear hown2 hgrow2; obtain ⟨x0, x1, x2, x3, x4, x5, x6⟩ := HX1.out.1.lits))
  all_goals
    have HR : Hid (Row w2 W.heap.size g2 cap2 (l ++ [e])) := by
      have h9 := HX1.out.2.2
      unfold Hid Row
      unfold OwnR at h9
      rw [List.length_append] at h9 ⊢
      exact h9
    have HB2 : Hid (Below W.heap.size W w2) := HX1.out.2.1
    clear HX1 x0 x1 x2 x3 x4 x5 x6
    have HU : Hid (Calls Try.prog 47 #[.slice (some ⟨g2, 0, none⟩) (l.length + 1) cap2, .int .i64 (l.length : Int)] w2 fun r w' => (∃ v, r = .returned v) ∧ Row w' W.heap.size g2 cap2 (pushL l e) ∧ Turns (fun b => b = g2) w2 w') := by
      have h9 := sUp_any W.heap.size g2 cap2 (l ++ [e]) l.length w2 (by simp; omega) HR.out (by simp)
      rw [List.length_append] at h9
      exact h9
    go_wp2_with fail
    refine HU.out.mono ?_
    rintro r w3 ⟨⟨v3, rfl⟩, hr3, ht3⟩
    have HR3 : Hid (Row w3 W.heap.size g2 cap2 (pushL l e)) := hr3
    have HB3 : Hid (Below W.heap.size W w3) := HB2.out.trans (ht3.to_below (fun k er => by subst er; exact hr3.lt.1) HB2.out.size)
    clear hr3 ht3 HU
    go_wp2
    go_ret
    refine ⟨_, rfl, ?_, ?_⟩
    · have h8 := HR3.out
      unfold Row at h8
      have h9 : OwnR W.heap.size w3 (.slice (some ⟨g2, 0, none⟩) (l.length + 1) cap2) (pushL l e) := by
        unfold OwnR
        rw [pushL_length] at h8 ⊢
        exact h8
      rw [hbx]
      exact h9.mono (Nat.le_of_lt hzs)
    · rw [hbx]
      exact HB0.out.trans (HB3.out.mono (Nat.le_of_lt hzs))
end Go.Proofs.Ythklekjglocbgaa

/- The specification's HeapPush. -/
namespace Go.Proofs.Ythklekjglocbgaa
open Go.RowKit
set_option maxRecDepth 100000 in
set_option maxHeartbeats 4000000 in
theorem sPush_bad (g : Nat) (l : List Ev) (e : Ev) (w : World) (hl : l.length ≤ 1048576) (hR : RowTo w g l.length l l.length) (hg : ¬ GoodH l) :
    Calls Try.prog 14 #[.slice (some ⟨g, 0, none⟩) l.length l.length, .agg #[.int .i64 e.t, .int .i64 e.s, .int .i64 e.q, .int .i64 e.d, .int .i64 e.k, .int .i64 e.v, .int .i64 e.g]] w fun r w' => Answers w.heap.size [] false r w' ∧ Below w.heap.size w w' := by
  have hgw : g < w.heap.size := hR.1
  have hB0 : Below w.heap.size w (w.alloc (.cells #[.int .i64 e.t, .int .i64 e.s, .int .i64 e.q, .int .i64 e.d, .int .i64 e.k, .int .i64 e.v, .int .i64 e.g] 33)) := (Below.refl _ w).alloc (Nat.le_refl _) _
  have HR : Hid (RowTo (w.alloc (.cells #[.int .i64 e.t, .int .i64 e.s, .int .i64 e.q, .int .i64 e.d, .int .i64 e.k, .int .i64 e.v, .int .i64 e.g] 33)) g l.length l l.length) := hR.below hB0 hgw
  have HB0 : Hid (Below w.heap.size w (w.alloc (.cells #[.int .i64 e.t, .int .i64 e.s, .int .i64 e.q, .int .i64 e.d, .int .i64 e.k, .int .i64 e.v, .int .i64 e.g] 33))) := hB0
  have HE0 : Hid (Ev.In (w.alloc (.cells #[.int .i64 e.t, .int .i64 e.s, .int .i64 e.q, .int .i64 e.d, .int .i64 e.k, .int .i64 e.v, .int .i64 e.g] 33)) w.heap.size 0 e) := newE w e
  have hs0 : w.heap.size < (w.alloc (.cells #[.int .i64 e.t, .int .i64 e.s, .int .i64 e.q, .int .i64 e.d, .int .i64 e.k, .int .i64 e.v, .int .i64 e.g] 33)).heap.size := by simp
  clear hR hB0
  have HG : Hid (¬ GoodH l) := hg
  clear hg
  go_enter Try.func14, Try.ntmps14
  go_wp2_with fail
  generalize w.alloc (.cells #[.int .i64 e.t, .int .i64 e.s, .int .i64 e.q, .int .i64 e.d, .int .i64 e.k, .int .i64 e.v, .int .i64 e.g] 33) = W at *
  refine (sHeap_any g 0 _ l _ hl (Nat.le_refl _) (by unfold maxLen; omega) HR.out.evs).mono ?_
  rintro r w1 ⟨⟨bb, rfl, hs⟩, hb1⟩
  have hbb : bb = false := by cases bb with | false => rfl | true => exact (HG.out (hs.1 rfl)).elim
  subst hbb
  clear hs
  have HB1 : Hid (Below w.heap.size w w1) := HB0.out.trans (hb1.mono (Nat.le_of_lt hs0))
  have HR1 : Hid (RowTo w1 g l.length l l.length) := HR.out.below hb1 HR.out.1
  have HE1 : Hid (Ev.In w1 w.heap.size 0 e) := HE0.out.below hb1 hs0
  have hs1 : w.heap.size < w1.heap.size := Nat.lt_of_lt_of_le hs0 hb1.size
  clear hb1 HR HE0
  go_wp2
  go_ret2
  exact ⟨⟨_, rfl, OwnEvs.nil _ _⟩, HB1.out⟩
set_option maxRecDepth 100000 in
set_option maxHeartbeats 4000000 in
theorem sPush_bade (g : Nat) (l : List Ev) (e : Ev) (w : World) (hl : l.length ≤ 1048576) (hR : RowTo w g l.length l l.length) (hg : GoodH l) (he : e.ok = false) :
    Calls Try.prog 14 #[.slice (some ⟨g, 0, none⟩) l.length l.length, .agg #[.int .i64 e.t, .int .i64 e.s, .int .i64 e.q, .int .i64 e.d, .int .i64 e.k, .int .i64 e.v, .int .i64 e.g]] w fun r w' => Answers w.heap.size [] false r w' ∧ Below w.heap.size w w' := by
  have hgw : g < w.heap.size := hR.1
  have hB0 : Below w.heap.size w (w.alloc (.cells #[.int .i64 e.t, .int .i64 e.s, .int .i64 e.q, .int .i64 e.d, .int .i64 e.k, .int .i64 e.v, .int .i64 e.g] 33)) := (Below.refl _ w).alloc (Nat.le_refl _) _
  have HR : Hid (RowTo (w.alloc (.cells #[.int .i64 e.t, .int .i64 e.s, .int .i64 e.q, .int .i64 e.d, .int .i64 e.k, .int .i64 e.v, .int .i64 e.g] 33)) g l.length l l.length) := hR.below hB0 hgw
  have HB0 : Hid (Below w.heap.size w (w.alloc (.cells #[.int .i64 e.t, .int .i64 e.s, .int .i64 e.q, .int .i64 e.d, .int .i64 e.k, .int .i64 e.v, .int .i64 e.g] 33))) := hB0
  have HE0 : Hid (Ev.In (w.alloc (.cells #[.int .i64 e.t, .int .i64 e.s, .int .i64 e.q, .int .i64 e.d, .int .i64 e.k, .int .i64 e.v, .int .i64 e.g] 33)) w.heap.size 0 e) := newE w e
  have hs0 : w.heap.size < (w.alloc (.cells #[.int .i64 e.t, .int .i64 e.s, .int .i64 e.q, .int .i64 e.d, .int .i64 e.k, .int .i64 e.v, .int .i64 e.g] 33)).heap.size := by simp
  clear hR hB0
  have HG : Hid (GoodH l) := hg
  have HEO : Hid (e.ok = false) := he
  clear hg he
  go_enter Try.func14, Try.ntmps14
  go_wp2_with fail
  generalize w.alloc (.cells #[.int .i64 e.t, .int .i64 e.s, .int .i64 e.q, .int .i64 e.d, .int .i64 e.k, .int .i64 e.v, .int .i64 e.g] 33) = W at *
  refine (sHeap_any g 0 _ l _ hl (Nat.le_refl _) (by unfold maxLen; omega) HR.out.evs).mono ?_
  rintro r w1 ⟨⟨bb, rfl, hs⟩, hb1⟩
  have hbb : bb = true := hs.2 HG.out
  subst hbb
  clear hs
  have HB1 : Hid (Below w.heap.size w w1) := HB0.out.trans (hb1.mono (Nat.le_of_lt hs0))
  have HR1 : Hid (RowTo w1 g l.length l l.length) := HR.out.below hb1 HR.out.1
  have HE1 : Hid (Ev.In w1 w.heap.size 0 e) := HE0.out.below hb1 hs0
  have hs1 : w.heap.size < w1.heap.size := Nat.lt_of_lt_of_le hs0 hb1.size
  clear hb1 HR HE0
  obtain ⟨f0, f1, f2, f3, f4, f5, f6⟩ := HE1.out.lits
  go_wp2_with fail
  refine (sOk_ev e false HEO.out _).mono ?_
  rintro r w2 ⟨rfl, hb2⟩
  clear f0 f1 f2 f3 f4 f5 f6
  have HB2 : Hid (Below w.heap.size w w2) := HB1.out.trans (hb2.mono HB1.out.size)
  have HR2 : Hid (RowTo w2 g l.length l l.length) := HR1.out.below hb2 HR1.out.1
  have HE2 : Hid (Ev.In w2 w.heap.size 0 e) := HE1.out.below hb2 hs1
  have hs2 : w.heap.size < w2.heap.size := Nat.lt_of_lt_of_le hs1 hb2.size
  clear hb2 HR1 HE1 HB1
  go_wp2
  go_ret2
  exact ⟨⟨_, rfl, OwnEvs.nil _ _⟩, HB2.out⟩
set_option maxRecDepth 100000 in
set_option maxHeartbeats 4000000 in
theorem sPush_tag (g : Nat) (l : List Ev) (e : Ev) (w : World) (hl : l.length ≤ 1048576) (hR : RowTo w g l.length l l.length) (hg : GoodH l) (he : e.ok = true) (k : Nat) (hk : FirstAt l e.g k) :
    Calls Try.prog 14 #[.slice (some ⟨g, 0, none⟩) l.length l.length, .agg #[.int .i64 e.t, .int .i64 e.s, .int .i64 e.q, .int .i64 e.d, .int .i64 e.k, .int .i64 e.v, .int .i64 e.g]] w fun r w' => Answers w.heap.size l false r w' ∧ Below w.heap.size w w' := by
  have hgw : g < w.heap.size := hR.1
  have hB0 : Below w.heap.size w (w.alloc (.cells #[.int .i64 e.t, .int .i64 e.s, .int .i64 e.q, .int .i64 e.d, .int .i64 e.k, .int .i64 e.v, .int .i64 e.g] 33)) := (Below.refl _ w).alloc (Nat.le_refl _) _
  have HR : Hid (RowTo (w.alloc (.cells #[.int .i64 e.t, .int .i64 e.s, .int .i64 e.q, .int .i64 e.d, .int .i64 e.k, .int .i64 e.v, .int .i64 e.g] 33)) g l.length l l.length) := hR.below hB0 hgw
  have HB0 : Hid (Below w.heap.size w (w.alloc (.cells #[.int .i64 e.t, .int .i64 e.s, .int .i64 e.q, .int .i64 e.d, .int .i64 e.k, .int .i64 e.v, .int .i64 e.g] 33))) := hB0
  have HE0 : Hid (Ev.In (w.alloc (.cells #[.int .i64 e.t, .int .i64 e.s, .int .i64 e.q, .int .i64 e.d, .int .i64 e.k, .int .i64 e.v, .int .i64 e.g] 33)) w.heap.size 0 e) := newE w e
  have hs0 : w.heap.size < (w.alloc (.cells #[.int .i64 e.t, .int .i64 e.s, .int .i64 e.q, .int .i64 e.d, .int .i64 e.k, .int .i64 e.v, .int .i64 e.g] 33)).heap.size := by simp
  clear hR hB0
  have HG : Hid (GoodH l) := hg
  have HEO : Hid (e.ok = true) := he
  have HK : Hid (FirstAt l e.g k) := hk
  have hk1 : (0 : Int) ≤ (k : Int) := by omega
  have hk2 : decide ((0 : Int) ≤ (k : Int)) = true := by simp
  clear hg he hk
  go_enter Try.func14, Try.ntmps14
  go_wp2_with fail
  generalize w.alloc (.cells #[.int .i64 e.t, .int .i64 e.s, .int .i64 e.q, .int .i64 e.d, .int .i64 e.k, .int .i64 e.v, .int .i64 e.g] 33) = W at *
  refine (sHeap_any g 0 _ l _ hl (Nat.le_refl _) (by unfold maxLen; omega) HR.out.evs).mono ?_
  rintro r w1 ⟨⟨bb, rfl, hs⟩, hb1⟩
  have hbb : bb = true := hs.2 HG.out
  subst hbb
  clear hs
  have HB1 : Hid (Below w.heap.size w w1) := HB0.out.trans (hb1.mono (Nat.le_of_lt hs0))
  have HR1 : Hid (RowTo w1 g l.length l l.length) := HR.out.below hb1 HR.out.1
  have HE1 : Hid (Ev.In w1 w.heap.size 0 e) := HE0.out.below hb1 hs0
  have hs1 : w.heap.size < w1.heap.size := Nat.lt_of_lt_of_le hs0 hb1.size
  clear hb1 HR HE0
  obtain ⟨f0, f1, f2, f3, f4, f5, f6⟩ := HE1.out.lits
  go_wp2_with fail
  refine (sOk_ev e true HEO.out _).mono ?_
  rintro r w2 ⟨rfl, hb2⟩
  clear f0 f1 f2 f3 f4 f5 f6
  have HB2 : Hid (Below w.heap.size w w2) := HB1.out.trans (hb2.mono HB1.out.size)
  have HR2 : Hid (RowTo w2 g l.length l l.length) := HR1.out.below hb2 HR1.out.1
  have HE2 : Hid (Ev.In w2 w.heap.size 0 e) := HE1.out.below hb2 hs1
  have hs2 : w.heap.size < w2.heap.size := Nat.lt_of_lt_of_le hs1 hb2.size
  clear hb2 HR1 HE1 HB1
  obtain ⟨f0, f1, f2, f3, f4, f5, f6⟩ := HE2.out.lits
  go_wp2_with fail
  refine (find_some g 0 _ l e.g k _ hl HR2.out.evs HK.out).mono ?_
  rintro r w3 ⟨rfl, hw⟩
  have hw' := hw.symm
  clear hw
  subst hw'
  go_wp2_with fail
  refine (own_row _ l _ (by omega) HR2.out.src).mono ?_
  rintro r w4 ⟨y, rfl, hy, hb4⟩
  have HY : Hid (OwnR w2.heap.size w4 y l) := hy
  have HB4 : Hid (Below w.heap.size w w4) := HB2.out.trans (hb4.mono HB2.out.size)
  clear hy hb4
  go_wp2
  go_ret2
  exact ⟨ans_of HB2.out HB2.out.size HY.out, HB4.out⟩
set_option maxRecDepth 100000 in
set_option maxHeartbeats 4000000 in
theorem sPush_full (g : Nat) (l : List Ev) (e : Ev) (w : World) (hl : l.length ≤ 1048576) (hR : RowTo w g l.length l l.length) (hg : GoodH l) (he : e.ok = true) (hk : NoTag l e.g) (hf : 2000 ≤ l.length) :
    Calls Try.prog 14 #[.slice (some ⟨g, 0, none⟩) l.length l.length, .agg #[.int .i64 e.t, .int .i64 e.s, .int .i64 e.q, .int .i64 e.d, .int .i64 e.k, .int .i64 e.v, .int .i64 e.g]] w fun r w' => Answers w.heap.size l false r w' ∧ Below w.heap.size w w' := by
  have hgw : g < w.heap.size := hR.1
  have hB0 : Below w.heap.size w (w.alloc (.cells #[.int .i64 e.t, .int .i64 e.s, .int .i64 e.q, .int .i64 e.d, .int .i64 e.k, .int .i64 e.v, .int .i64 e.g] 33)) := (Below.refl _ w).alloc (Nat.le_refl _) _
  have HR : Hid (RowTo (w.alloc (.cells #[.int .i64 e.t, .int .i64 e.s, .int .i64 e.q, .int .i64 e.d, .int .i64 e.k, .int .i64 e.v, .int .i64 e.g] 33)) g l.length l l.length) := hR.below hB0 hgw
  have HB0 : Hid (Below w.heap.size w (w.alloc (.cells #[.int .i64 e.t, .int .i64 e.s, .int .i64 e.q, .int .i64 e.d, .int .i64 e.k, .int .i64 e.v, .int .i64 e.g] 33))) := hB0
  have HE0 : Hid (Ev.In (w.alloc (.cells #[.int .i64 e.t, .int .i64 e.s, .int .i64 e.q, .int .i64 e.d, .int .i64 e.k, .int .i64 e.v, .int .i64 e.g] 33)) w.heap.size 0 e) := newE w e
  have hs0 : w.heap.size < (w.alloc (.cells #[.int .i64 e.t, .int .i64 e.s, .int .i64 e.q, .int .i64 e.d, .int .i64 e.k, .int .i64 e.v, .int .i64 e.g] 33)).heap.size := by simp
  clear hR hB0
  have HG : Hid (GoodH l) := hg
  have HEO : Hid (e.ok = true) := he
  have HK : Hid (NoTag l e.g) := hk
  have hf1 : (2000 : Int) ≤ (l.length : Int) := by omega
  clear hg he hk
  go_enter Try.func14, Try.ntmps14
  go_wp2_with fail
  generalize w.alloc (.cells #[.int .i64 e.t, .int .i64 e.s, .int .i64 e.q, .int .i64 e.d, .int .i64 e.k, .int .i64 e.v, .int .i64 e.g] 33) = W at *
  refine (sHeap_any g 0 _ l _ hl (Nat.le_refl _) (by unfold maxLen; omega) HR.out.evs).mono ?_
  rintro r w1 ⟨⟨bb, rfl, hs⟩, hb1⟩
  have hbb : bb = true := hs.2 HG.out
  subst hbb
  clear hs
  have HB1 : Hid (Below w.heap.size w w1) := HB0.out.trans (hb1.mono (Nat.le_of_lt hs0))
  have HR1 : Hid (RowTo w1 g l.length l l.length) := HR.out.below hb1 HR.out.1
  have HE1 : Hid (Ev.In w1 w.heap.size 0 e) := HE0.out.below hb1 hs0
  have hs1 : w.heap.size < w1.heap.size := Nat.lt_of_lt_of_le hs0 hb1.size
  clear hb1 HR HE0
  obtain ⟨f0, f1, f2, f3, f4, f5, f6⟩ := HE1.out.lits
  go_wp2_with fail
  refine (sOk_ev e true HEO.out _).mono ?_
  rintro r w2 ⟨rfl, hb2⟩
  clear f0 f1 f2 f3 f4 f5 f6
  have HB2 : Hid (Below w.heap.size w w2) := HB1.out.trans (hb2.mono HB1.out.size)
  have HR2 : Hid (RowTo w2 g l.length l l.length) := HR1.out.below hb2 HR1.out.1
  have HE2 : Hid (Ev.In w2 w.heap.size 0 e) := HE1.out.below hb2 hs1
  have hs2 : w.heap.size < w2.heap.size := Nat.lt_of_lt_of_le hs1 hb2.size
  clear hb2 HR1 HE1 HB1
  obtain ⟨f0, f1, f2, f3, f4, f5, f6⟩ := HE2.out.lits
  go_wp2_with fail
  refine (find_none g 0 _ l e.g _ hl HR2.out.evs HK.out).mono ?_
  rintro r w3 ⟨rfl, hw⟩
  have hw' := hw.symm
  clear hw
  subst hw'
  go_wp2_with fail
  refine (own_row _ l _ (by omega) HR2.out.src).mono ?_
  rintro r w4 ⟨y, rfl, hy, hb4⟩
  have HY : Hid (OwnR w2.heap.size w4 y l) := hy
  have HB4 : Hid (Below w.heap.size w w4) := HB2.out.trans (hb4.mono HB2.out.size)
  clear hy hb4
  go_wp2
  go_ret2
  exact ⟨ans_of HB2.out HB2.out.size HY.out, HB4.out⟩
set_option maxRecDepth 100000 in
set_option maxHeartbeats 4000000 in
theorem sPush_good (g : Nat) (l : List Ev) (e : Ev) (w : World) (hl : l.length ≤ 1048576) (hR : RowTo w g l.length l l.length) (hg : GoodH l) (he : e.ok = true) (hk : NoTag l e.g) (hf : l.length < 2000) :
    Calls Try.prog 14 #[.slice (some ⟨g, 0, none⟩) l.length l.length, .agg #[.int .i64 e.t, .int .i64 e.s, .int .i64 e.q, .int .i64 e.d, .int .i64 e.k, .int .i64 e.v, .int .i64 e.g]] w fun r w' => Answers w.heap.size (pushL l e) true r w' ∧ Below w.heap.size w w' := by
  have hgw : g < w.heap.size := hR.1
  have hB0 : Below w.heap.size w (w.alloc (.cells #[.int .i64 e.t, .int .i64 e.s, .int .i64 e.q, .int .i64 e.d, .int .i64 e.k, .int .i64 e.v, .int .i64 e.g] 33)) := (Below.refl _ w).alloc (Nat.le_refl _) _
  have HR : Hid (RowTo (w.alloc (.cells #[.int .i64 e.t, .int .i64 e.s, .int .i64 e.q, .int .i64 e.d, .int .i64 e.k, .int .i64 e.v, .int .i64 e.g] 33)) g l.length l l.length) := hR.below hB0 hgw
  have HB0 : Hid (Below w.heap.size w (w.alloc (.cells #[.int .i64 e.t, .int .i64 e.s, .int .i64 e.q, .int .i64 e.d, .int .i64 e.k, .int .i64 e.v, .int .i64 e.g] 33))) := hB0
  have HE0 : Hid (Ev.In (w.alloc (.cells #[.int .i64 e.t, .int .i64 e.s, .int .i64 e.q, .int .i64 e.d, .int .i64 e.k, .int .i64 e.v, .int .i64 e.g] 33)) w.heap.size 0 e) := newE w e
  have hs0 : w.heap.size < (w.alloc (.cells #[.int .i64 e.t, .int .i64 e.s, .int .i64 e.q, .int .i64 e.d, .int .i64 e.k, .int .i64 e.v, .int .i64 e.g] 33)).heap.size := by simp
  clear hR hB0
  have HG : Hid (GoodH l) := hg
  have HEO : Hid (e.ok = true) := he
  have HK : Hid (NoTag l e.g) := hk
  have hf1 : ¬ ((2000 : Int) ≤ (l.length : Int)) := by omega
  have hf2 : ¬ (2000 ≤ l.length) := by omega
  clear hg he hk
  go_enter Try.func14, Try.ntmps14
  go_wp2_with fail
  generalize w.alloc (.cells #[.int .i64 e.t, .int .i64 e.s, .int .i64 e.q, .int .i64 e.d, .int .i64 e.k, .int .i64 e.v, .int .i64 e.g] 33) = W at *
  refine (sHeap_any g 0 _ l _ hl (Nat.le_refl _) (by unfold maxLen; omega) HR.out.evs).mono ?_
  rintro r w1 ⟨⟨bb, rfl, hs⟩, hb1⟩
  have hbb : bb = true := hs.2 HG.out
  subst hbb
  clear hs
  have HB1 : Hid (Below w.heap.size w w1) := HB0.out.trans (hb1.mono (Nat.le_of_lt hs0))
  have HR1 : Hid (RowTo w1 g l.length l l.length) := HR.out.below hb1 HR.out.1
  have HE1 : Hid (Ev.In w1 w.heap.size 0 e) := HE0.out.below hb1 hs0
  have hs1 : w.heap.size < w1.heap.size := Nat.lt_of_lt_of_le hs0 hb1.size
  clear hb1 HR HE0
  obtain ⟨f0, f1, f2, f3, f4, f5, f6⟩ := HE1.out.lits
  go_wp2_with fail
  refine (sOk_ev e true HEO.out _).mono ?_
  rintro r w2 ⟨rfl, hb2⟩
  clear f0 f1 f2 f3 f4 f5 f6
  have HB2 : Hid (Below w.heap.size w w2) := HB1.out.trans (hb2.mono HB1.out.size)
  have HR2 : Hid (RowTo w2 g l.length l l.length) := HR1.out.below hb2 HR1.out.1
  have HE2 : Hid (Ev.In w2 w.heap.size 0 e) := HE1.out.below hb2 hs1
  have hs2 : w.heap.size < w2.heap.size := Nat.lt_of_lt_of_le hs1 hb2.size
  clear hb2 HR1 HE1 HB1
  obtain ⟨f0, f1, f2, f3, f4, f5, f6⟩ := HE2.out.lits
  go_wp2_with fail
  refine (find_none g 0 _ l e.g _ hl HR2.out.evs HK.out).mono ?_
  rintro r w3 ⟨rfl, hw⟩
  have hw' := hw.symm
  clear hw
  subst hw'
  go_wp2_with fail
  refine (sPush_any _ l e _ hl HR2.out.src).mono ?_
  rintro r w4 ⟨y, rfl, hy, hb4⟩
  have HY : Hid (OwnR w2.heap.size w4 y (pushL l e)) := hy
  have HB4 : Hid (Below w.heap.size w w4) := HB2.out.trans (hb4.mono HB2.out.size)
  clear hy hb4
  go_wp2
  go_ret2
  exact ⟨ans_of HB2.out HB2.out.size HY.out, HB4.out⟩
end Go.Proofs.Ythklekjglocbgaa

/- Both HeapOf; they give the same. -/
namespace Go.Proofs.Ythklekjglocbgaa
open Go.RowKit
theorem kept_fold_iff {Q : Ev → Prop} : ∀ (l m : List Ev), Kept Q (l.foldl pushL m) ↔ Kept Q m ∧ ∀ e ∈ l, Q e
  | [], m => by simp
  | e :: l, m => by
    rw [List.foldl_cons, kept_fold_iff l, kept_pushL]
    simp only [List.mem_cons, forall_eq_or_imp]
    exact ⟨fun ⟨⟨a, b⟩, c⟩ => ⟨a, b, c⟩, fun ⟨a, b, c⟩ => ⟨⟨a, b⟩, c⟩⟩
theorem mem_take_at {l : List Ev} {k : Nat} {e : Ev} (h : e ∈ l.take k) : ∃ j, j < k ∧ j < l.length ∧ evAt l j = e := by
  obtain ⟨j, hj, rfl⟩ := List.mem_iff_getElem.1 h
  have hj' : j < k ∧ j < l.length := by simp at hj; omega
  exact ⟨j, hj'.1, hj'.2, by simp [evAt, hj'.2]⟩
theorem at_mem_take {l : List Ev} {k j : Nat} (h : j < k) (hl : j < l.length) : evAt l j ∈ l.take k := by
  rw [← evAt_take l k j h]
  have hj : j < (l.take k).length := by simp; omega
  have : evAt (l.take k) j = (l.take k)[j] := by simp [evAt, hl, h]
  rw [this]
  exact List.getElem_mem hj
theorem noTag_fold (l : List Ev) (k : Nat) (tag : Int) (hk : k ≤ l.length) : NoTag ((l.take k).foldl pushL []) tag ↔ ∀ j, j < k → (evAt l j).g ≠ tag := by
  have h := kept_fold_iff (Q := fun e => e.g ≠ tag) (l.take k) []
  constructor
  · intro hn j hj
    exact (h.1 hn).2 _ (at_mem_take hj (by omega))
  · intro hn
    refine h.2 ⟨fun j hj => by simp at hj, fun e he => ?_⟩
    obtain ⟨j, hj, _, rfl⟩ := mem_take_at he
    exact hn j hj
set_option maxHeartbeats 1000000 in
theorem find_nil (tag : Int) (w : World) : Calls Try.prog 30 #[.slice none 0 0, .int .i64 tag] w fun e w' => e = .returned (.int .i64 (-1)) ∧ w' = w := by
  go_enter Try.func30, Try.ntmps30
  go_wp2
  go_loop [5] (fun i => i = .int .i64 0) (fun _ => 0)
  case atStart => rfl
  case round =>
    subst hrel
    go_wp2
    go_ret
    exact ⟨rfl, rfl⟩
theorem find_own_none {B : Nat} {w : World} {o : Value} {m : List Ev} {tag : Int} (h : OwnR B w o m) (hl : m.length ≤ 1048576) (hn : NoTag m tag) : Calls Try.prog 30 #[o, .int .i64 tag] w fun e w' => e = .returned (.int .i64 (-1)) ∧ w' = w := by
  rcases h.src with ⟨rfl, _⟩ | ⟨b, off, cap, rfl, hev⟩
  · exact find_nil tag w
  · exact find_none b off cap m tag w hl hev hn
theorem find_own_some {B : Nat} {w : World} {o : Value} {m : List Ev} {tag : Int} {i : Nat} (h : OwnR B w o m) (hl : m.length ≤ 1048576) (hn : FirstAt m tag i) : Calls Try.prog 30 #[o, .int .i64 tag] w fun e w' => e = .returned (.int .i64 (i : Int)) ∧ w' = w := by
  rcases h.src with ⟨_, rfl⟩ | ⟨b, off, cap, rfl, hev⟩
  · exact absurd hn.1 (by simp)
  · exact find_some b off cap m tag i w hl hev hn
def Good1L (l : List Ev) (i : Nat) : Prop := (evAt l i).ok = true ∧ ∀ j, j < i → (evAt l j).g ≠ (evAt l i).g
def GoodL (l : List Ev) : Prop := l.length ≤ 2000 ∧ ∀ i, i < l.length → Good1L l i
def AnsL (l : List Ev) (B : Nat) (e : Ending) (w' : World) : Prop := (GoodL l ∧ Answers B (l.foldl pushL []) true e w') ∨ (¬ GoodL l ∧ Answers B [] false e w')
theorem take_succ_ev (l : List Ev) (k : Nat) (h : k < l.length) : l.take (k + 1) = l.take k ++ [evAt l k] := by
  rw [List.take_succ_eq_append_getElem h]
  simp [evAt, h]
set_option maxRecDepth 100000 in
set_option maxHeartbeats 4000000 in
theorem sOf_any (g : Nat) (l : List Ev) (w : World) (hl : l.length ≤ 1048576) (hR : RowTo w g l.length l l.length) :
    Calls Try.prog 24 #[.slice (some ⟨g, 0, none⟩) l.length l.length] w fun e w' => AnsL l w.heap.size e w' ∧ Below w.heap.size w w' := by
  have HR : Hid (RowTo w g l.length l l.length) := hR
  have hgw : g < w.heap.size := hR.1
  clear hR
  by_cases h0 : l.length ≤ 2000
  · have hd : ¬ ((2000 : Int) < (l.length : Int)) := by omega
    go_enter Try.func24, Try.ntmps24
    go_wp2
    go_loopw [4, 5] (fun o i wr => ∃ k : Nat, k ≤ l.length ∧ i = .int .i64 k ∧ Hid (OwnR w.heap.size wr o ((l.take k).foldl pushL [])) ∧ Hid (Below w.heap.size w wr) ∧ Hid (∀ i, i < k → Good1L l i)) (fun _ i _ => l.length - (intOf i).toNat)
    case atStart => exact ⟨0, Nat.zero_le _, rfl, OwnR.nil _ _, Below.refl _ _, fun i hi => by omega⟩
    case round =>
      obtain ⟨k, hk, rfl, HO, HB, HG⟩ := hrel
      by_cases hlt : k < l.length
      · have hkn : (k : Int) < (l.length : Int) := by omega
        have HR2 : Hid (RowTo wr g l.length l l.length) := HR.out.below HB.out hgw
        obtain ⟨f0, f1, f2, f3, f4, f5, f6⟩ := HR2.out.2.2 k hlt
        cases hok : (evAt l k).ok
        · have HOK : Hid ((evAt l k).ok = false) := hok
          clear hok
          go_wp2_with fail
          refine (sOk_ev (evAt l k) false HOK.out _).mono ?_
          rintro e w2 ⟨rfl, hb2⟩
          go_wp2
          go_ret2
          exact ⟨.inr ⟨fun h => (by have := (h.2 k hlt).1; rw [HOK.out] at this; cases this), _, rfl, OwnEvs.nil _ _⟩, HB.out.trans (hb2.mono HB.out.size)⟩
        · have HOK : Hid ((evAt l k).ok = true) := hok
          clear hok
          have hfl : ((l.take k).foldl pushL []).length ≤ 1048576 := by rw [fold_length]; simp; omega
          go_wp2_with fail
          refine (sOk_ev (evAt l k) true HOK.out _).mono ?_
          rintro e w2 ⟨rfl, hb2⟩
          have HB2 : Hid (Below w.heap.size w w2) := HB.out.trans (hb2.mono HB.out.size)
          have HO2 : Hid (OwnR w.heap.size w2 u4 ((l.take k).foldl pushL [])) := HO.out.below hb2
          have HR3 : Hid (RowTo w2 g l.length l l.length) := HR2.out.below hb2 HR2.out.1
          clear f0 f1 f2 f3 f4 f5 f6 hb2 HB HO HR2
          obtain ⟨f0, f1, f2, f3, f4, f5, f6⟩ := HR3.out.2.2 k hlt
          rcases firstAt_or ((l.take k).foldl pushL []) (evAt l k).g with ⟨i, hfi⟩ | hno
          · have HFI : Hid (FirstAt ((l.take k).foldl pushL []) (evAt l k).g i) := hfi
            have hdi : (0 : Int) ≤ (i : Int) := by omega
            have hdi2 : decide ((0 : Int) ≤ (i : Int)) = true := by simp
            clear hfi
            go_wp2_with fail
            refine (find_own_some HO2.out hfl HFI.out).mono ?_
            rintro e w3 ⟨rfl, hw⟩
            have hw' := hw.symm
            clear hw
            subst hw'
            go_wp2
            go_ret2
            refine ⟨.inr ⟨fun h => ?_, _, rfl, OwnEvs.nil _ _⟩, HB2.out⟩
            exact ((noTag_fold l k (evAt l k).g hk).2 (h.2 k hlt).2) i HFI.out.1 HFI.out.2.1
          · have HNO : Hid (NoTag ((l.take k).foldl pushL []) (evAt l k).g) := hno
            clear hno
            go_wp2_with fail
            refine (find_own_none HO2.out hfl HNO.out).mono ?_
            rintro e w3 ⟨rfl, hw⟩
            have hw' := hw.symm
            clear hw
            subst hw'
            go_wp2_with fail
            refine (sPush_any _ ((l.take k).foldl pushL []) (evAt l k) _ hfl HO2.out.src).mono ?_
            rintro e w4 ⟨y, rfl, hy, hb4⟩
            have HY : Hid (OwnR w.heap.size w4 y (pushL ((l.take k).foldl pushL []) (evAt l k))) := hy.mono HB2.out.size
            have HB4 : Hid (Below w.heap.size w w4) := HB2.out.trans (hb4.mono HB2.out.size)
            clear hy hb4 f0 f1 f2 f3 f4 f5 f6
            go_wp2
            go_roundw
            case rel => exact ⟨k + 1, by omega, by go_num, by unfold Hid; rw [take_succ_ev l k hlt, List.foldl_append]; exact HY.out, HB4.out, fun i hi => by
              by_cases e : i = k
              · subst e; exact ⟨HOK.out, (noTag_fold l i _ hk).1 HNO.out⟩
              · exact HG.out i (by omega)⟩
            case measure => simp [intOf]; omega
      · go_wp2
        go_ret2
        obtain rfl : k = l.length := by omega
        refine ⟨.inl ⟨⟨h0, HG.out⟩, _, rfl, ?_⟩, HB.out⟩
        have h9 := HO.out
        rw [List.take_length] at h9
        exact h9.own
  · have hd : (2000 : Int) < (l.length : Int) := by omega
    go_enter Try.func24, Try.ntmps24
    go_wp2
    go_ret2
    exact ⟨.inr ⟨fun h => h0 h.1, _, rfl, OwnEvs.nil _ _⟩, Below.refl _ _⟩
set_option maxRecDepth 100000 in
set_option maxHeartbeats 4000000 in
theorem iOf_any (g : Nat) (l : List Ev) (w : World) (hl : l.length ≤ 1048576) (hR : RowTo w g l.length l l.length) :
    Calls Try.prog 25 #[.slice (some ⟨g, 0, none⟩) l.length l.length] w fun e w' => AnsL l w.heap.size e w' ∧ Below w.heap.size w w' := by
  have HR : Hid (RowTo w g l.length l l.length) := hR
  have hgw : g < w.heap.size := hR.1
  clear hR
  by_cases h0 : l.length ≤ 2000
  · have hd : ¬ ((2000 : Int) < (l.length : Int)) := by omega
    have hd2 : decide ((2000 : Int) < (l.length : Int)) = false := by simp; omega
    have hd3 : decide (2000 < l.length) = false := by simp; omega
    have hme := fun w P => m_events P w
    go_enter Try.func25, Try.ntmps25
    go_wp2_with fail
    refine (eventsOk_any (some ⟨g, 0, none⟩) _ g l _ hl (.inr ⟨0, rfl, HR.out.evs⟩) hgw).mono ?_
    rintro e w1 ⟨⟨b1, rfl, hs1⟩, hb1⟩
    have HS1 : Hid (b1 = true ↔ ∀ i, i < l.length → (evAt l i).ok = true) := hs1
    clear hs1
    have HB1 : Hid (Below w.heap.size w w1) := hb1
    have HR1 : Hid (RowTo w1 g l.length l l.length) := HR.out.below hb1 hgw
    clear hb1 HR
    cases b1
    · go_wp2
      go_ret2
      exact ⟨.inr ⟨fun h => (by have := HS1.out.2 (fun i hi => (h.2 i hi).1); cases this), _, rfl, OwnEvs.nil _ _⟩, HB1.out⟩
    · have HOK : Hid (∀ i, i < l.length → (evAt l i).ok = true) := HS1.out.1 rfl
      clear HS1
      go_wp2_with fail
      refine (tagsDiffer_any (some ⟨g, 0, none⟩) _ g l _ hl (.inr ⟨0, rfl, HR1.out.evs⟩) HR1.out.1 (fun i hi => okB_tag (HOK.out i hi))).mono ?_
      rintro e w2 ⟨⟨b2, rfl, hs2⟩, hb2⟩
      have HS2 : Hid (b2 = true ↔ ∀ i, i < l.length → ∀ j, j < i → (evAt l j).g ≠ (evAt l i).g) := hs2
      have HB2 : Hid (Below w.heap.size w w2) := HB1.out.trans (hb2.mono HB1.out.size)
      have HR2 : Hid (RowTo w2 g l.length l l.length) := HR1.out.below hb2 HR1.out.1
      clear hs2 hb2 HR1
      cases b2
      · go_wp2
        go_ret2
        exact ⟨.inr ⟨fun h => (by have := HS2.out.2 (fun i hi => (h.2 i hi).2); cases this), _, rfl, OwnEvs.nil _ _⟩, HB2.out⟩
      · have HO2 : Hid (∀ i, i < l.length → ∀ j, j < i → (evAt l j).g ≠ (evAt l i).g) := HS2.out.1 rfl
        clear HS2
        go_wp2_with fail
        refine (pileOf_any (.slice none 0 0) [] _ (by simp) (.inl ⟨rfl, rfl⟩)).mono ?_
        rintro e w3 ⟨P, v, rfl, hp3, hb3⟩
        have HP3 : Hid (Pl w3 w2.heap.size P v []) := hp3
        have HB3 : Hid (Below w2.heap.size w2 w3) := hb3
        have HR3 : Hid (RowTo w3 g l.length l l.length) := HR2.out.below hb3 HR2.out.1
        have hg2 : g < w2.heap.size := HR2.out.1
        have HPA : Hid (Calls Try.prog 38 #[pv P, .slice (some ⟨g, 0, none⟩) l.length l.length] w3 fun e w' => e = .returned (.bool true) ∧ (∃ v', Pl w' w2.heap.size P v' (l.foldl pushL []) ∧ NewRow w3 v v') ∧ Turns (fun k => k = P ∨ v.ownBlock = some k) w3 w') :=
          pushAll_ok w2.heap.size P v [] (some ⟨g, 0, none⟩) l.length g l w3 h0 hb3.size hp3 (.inr ⟨0, rfl, HR3.out.evs⟩) HR3.out.1 (by have := hp3.low; omega) (fun e => by have := (OwnR.block hp3.row e).1; omega) (by simpa using h0) (fun j hj => by simp at hj) HOK.out (fun i hi j hj => by simp at hj)
        have HLO : Hid (w2.heap.size ≤ P ∧ ∀ k, v.ownBlock = some k → w2.heap.size ≤ k) := ⟨hp3.low, fun k e => (OwnR.block hp3.row e).1⟩
        clear hp3 hb3 HR2
        go_wp2_with fail
        refine HPA.out.mono ?_
        rintro e w4 ⟨rfl, ⟨v4, hp4, _⟩, ht4⟩
        have HP4 : Hid (Pl w4 w2.heap.size P v4 (l.foldl pushL [])) := hp4
        have HB4 : Hid (Below w.heap.size w w4) := HB2.out.trans ((HB3.out.trans (ht4.to_below (fun k h => by rcases h with rfl | h; exact HLO.out.1; exact HLO.out.2 k h) HB3.out.size)).mono HB2.out.size)
        clear hp4 ht4 HPA
        go_wp2_with fail
        refine (events_any w2.heap.size P v4 (l.foldl pushL []) _ (by rw [fold_length]; simp; omega) HP4.out).mono ?_
        rintro e w5 ⟨y, rfl, hy, hb5⟩
        have HY : Hid (OwnR w4.heap.size w5 y (l.foldl pushL [])) := hy
        have HB5 : Hid (Below w.heap.size w w5) := HB4.out.trans (hb5.mono HB4.out.size)
        clear hy hb5
        go_wp2
        go_ret2
        exact ⟨.inl ⟨⟨h0, fun i hi => ⟨HOK.out i hi, HO2.out i hi⟩⟩, ans_of HB4.out HB4.out.size HY.out⟩, HB5.out⟩
  · have hd : (2000 : Int) < (l.length : Int) := by omega
    go_enter Try.func25, Try.ntmps25
    go_wp2
    go_ret2
    exact ⟨.inr ⟨fun h => h0 h.1, _, rfl, OwnEvs.nil _ _⟩, Below.refl _ _⟩
theorem of_both (l : List Ev) (hl : l.length ≤ 1048576) : ∃ (l' : List Ev) (bb : Bool), l'.length ≤ 1048577 ∧
    (∀ (w : World) (g : Nat), RowTo w g l.length l l.length → Calls Try.prog 24 #[.slice (some ⟨g, 0, none⟩) l.length l.length] w fun e w' => Answers w.heap.size l' bb e w' ∧ Below w.heap.size w w') ∧
    (∀ (w : World) (g : Nat), RowTo w g l.length l l.length → Calls Try.prog 25 #[.slice (some ⟨g, 0, none⟩) l.length l.length] w fun e w' => Answers w.heap.size l' bb e w' ∧ Below w.heap.size w w') := by
  by_cases hg : GoodL l
  · exact ⟨l.foldl pushL [], true, by rw [fold_length]; simp; omega, fun w g h => (sOf_any g l w hl h).mono fun e w' ⟨h1, h2⟩ => ⟨h1.elim (fun h => h.2) (fun h => absurd hg h.1), h2⟩, fun w g h => (iOf_any g l w hl h).mono fun e w' ⟨h1, h2⟩ => ⟨h1.elim (fun h => h.2) (fun h => absurd hg h.1), h2⟩⟩
  · exact ⟨[], false, by simp, fun w g h => (sOf_any g l w hl h).mono fun e w' ⟨h1, h2⟩ => ⟨h1.elim (fun h => absurd h.1 hg) (fun h => h.2), h2⟩, fun w g h => (iOf_any g l w hl h).mono fun e w' ⟨h1, h2⟩ => ⟨h1.elim (fun h => absurd h.1 hg) (fun h => h.2), h2⟩⟩
end Go.Proofs.Ythklekjglocbgaa

/- eqEvent and eqEventS where both sides are the same. -/
namespace Go.Proofs.Ythklekjglocbgaa
open Go.RowKit
set_option maxHeartbeats 1000000 in
theorem eqEvent_same (t s q d k v g : Int) (w : World) :
    Calls Try.prog 21 #[.agg #[.int .i64 t, .int .i64 s, .int .i64 q, .int .i64 d, .int .i64 k, .int .i64 v, .int .i64 g], .agg #[.int .i64 t, .int .i64 s, .int .i64 q, .int .i64 d, .int .i64 k, .int .i64 v, .int .i64 g]] w fun e w' => e = .returned (.bool true) ∧ Below w.heap.size w w' := by
  go_enter Try.func21, Try.ntmps21
  go_wp2
  go_ret
  exact ⟨rfl, ((Below.refl _ _).alloc (Nat.le_refl _) _).alloc (by simp) _⟩

set_option maxHeartbeats 1000000 in
theorem eqS_same (x y : Value) (l : List Ev) (w : World) (hl : l.length ≤ 1048576) (hx : IsEvs w x l) (hy : IsEvs w y l) :
    Calls Try.prog 13 #[x, y] w fun e w' => e = .returned (.bool true) ∧ Below w.heap.size w w' := by
  obtain ⟨a, cap, rfl, h1, h2, h⟩ := hx
  obtain ⟨a', cap', rfl, h1', h2', h'⟩ := hy
  clear h1 h2 h1' h2'
  by_cases hz : l = []
  · subst hz
    clear h h'
    go_enter Try.func13, Try.ntmps13
    go_wp2
    go_loop [5] (fun i => i = .int .i64 0) (fun _ => 0)
    case atStart => rfl
    case round =>
      subst hrel
      go_wp2
      go_ret
      exact ⟨rfl, Below.refl _ _⟩
  · obtain ⟨b, off, rfl, hb, hc⟩ := h.resolve_left hz
    obtain ⟨b', off', rfl, hb', hc'⟩ := h'.resolve_left hz
    clear h h' hz
    go_enter Try.func13, Try.ntmps13
    go_wp2
    go_loopw [5] (fun i wr => ∃ k : Nat, k ≤ l.length ∧ i = .int .i64 k ∧ Below w.heap.size w wr) (fun i _ => l.length - (intOf i).toNat)
    case atStart => exact ⟨0, Nat.zero_le _, rfl, Below.refl _ _⟩
    case round =>
      obtain ⟨k, hk, rfl, hB⟩ := hrel
      have HB : Hid (Below w.heap.size w wr) := hB
      by_cases hlt : k < l.length
      · obtain ⟨f0, f1, f2, f3, f4, f5, f6⟩ := (hc k hlt).below hB hb
        obtain ⟨e0, e1, e2, e3, e4, e5, e6⟩ := (hc' k hlt).below hB hb'
        have hbr : b < wr.heap.size := Nat.lt_of_lt_of_le hb hB.size
        have hbr' : b' < wr.heap.size := Nat.lt_of_lt_of_le hb' hB.size
        clear hB hc hc'
        go_wp2_with fail
        go_region_held3 (fun W => W.cell? ⟨b, off + k * 7, none⟩ = some (.int .i64 (evAt l k).t) ∧ W.cell? ⟨b, off + k * 7 + 1, none⟩ = some (.int .i64 (evAt l k).s) ∧ W.cell? ⟨b, off + k * 7 + 2, none⟩ = some (.int .i64 (evAt l k).q) ∧ W.cell? ⟨b, off + k * 7 + 3, none⟩ = some (.int .i64 (evAt l k).d) ∧ W.cell? ⟨b, off + k * 7 + 4, none⟩ = some (.int .i64 (evAt l k).k) ∧ W.cell? ⟨b, off + k * 7 + 5, none⟩ = some (.int .i64 (evAt l k).v) ∧ W.cell? ⟨b, off + k * 7 + 6, none⟩ = some (.int .i64 (evAt l k).g) ∧ W.cell? ⟨b', off' + k * 7, none⟩ = some (.int .i64 (evAt l k).t) ∧ W.cell? ⟨b', off' + k * 7 + 1, none⟩ = some (.int .i64 (evAt l k).s) ∧ W.cell? ⟨b', off' + k * 7 + 2, none⟩ = some (.int .i64 (evAt l k).q) ∧ W.cell? ⟨b', off' + k * 7 + 3, none⟩ = some (.int .i64 (evAt l k).d) ∧ W.cell? ⟨b', off' + k * 7 + 4, none⟩ = some (.int .i64 (evAt l k).k) ∧ W.cell? ⟨b', off' + k * 7 + 5, none⟩ = some (.int .i64 (evAt l k).v) ∧ W.cell? ⟨b', off' + k * 7 + 6, none⟩ = some (.int .i64 (evAt l k).g)) ((repeat' apply And.intro) <;> first | (go_keep; done) | (rw [hcA _ _ (by first | omega | (simp; omega) | simp [*])]; simp [*]; done))
          (first | (go_at_call 21; refine (eqEvent_same _ _ _ _ _ _ _ _).mono ?_; rintro e w2 ⟨rfl, hb2⟩; obtain ⟨hcA, hfA⟩ := bcell hb2))
        clear hcA hfA
        go_wp2
        go_roundw
        case rel => exact ⟨k + 1, by omega, by go_num, HB.out.drew.trans (hb2.mono (by have := HB.out.size; simpa using this))⟩
        case measure => simp [intOf]; omega
      · clear hB hc hc'
        go_wp2
        go_ret
        exact ⟨rfl, HB.out⟩
end Go.Proofs.Ythklekjglocbgaa

/- eqEventS, for lists one longer. -/
namespace Go.Proofs.Ythklekjglocbgaa
open Go.RowKit
set_option maxHeartbeats 1000000 in
theorem eqS_same' (x y : Value) (l : List Ev) (w : World) (hl : l.length ≤ 1048577) (hx : IsEvs w x l) (hy : IsEvs w y l) :
    Calls Try.prog 13 #[x, y] w fun e w' => e = .returned (.bool true) ∧ Below w.heap.size w w' := by
  obtain ⟨a, cap, rfl, h1, h2, h⟩ := hx
  obtain ⟨a', cap', rfl, h1', h2', h'⟩ := hy
  clear h1 h2 h1' h2'
  by_cases hz : l = []
  · subst hz
    clear h h'
    go_enter Try.func13, Try.ntmps13
    go_wp2
    go_loop [5] (fun i => i = .int .i64 0) (fun _ => 0)
    case atStart => rfl
    case round =>
      subst hrel
      go_wp2
      go_ret
      exact ⟨rfl, Below.refl _ _⟩
  · obtain ⟨b, off, rfl, hb, hc⟩ := h.resolve_left hz
    obtain ⟨b', off', rfl, hb', hc'⟩ := h'.resolve_left hz
    clear h h' hz
    go_enter Try.func13, Try.ntmps13
    go_wp2
    go_loopw [5] (fun i wr => ∃ k : Nat, k ≤ l.length ∧ i = .int .i64 k ∧ Below w.heap.size w wr) (fun i _ => l.length - (intOf i).toNat)
    case atStart => exact ⟨0, Nat.zero_le _, rfl, Below.refl _ _⟩
    case round =>
      obtain ⟨k, hk, rfl, hB⟩ := hrel
      have HB : Hid (Below w.heap.size w wr) := hB
      by_cases hlt : k < l.length
      · obtain ⟨f0, f1, f2, f3, f4, f5, f6⟩ := (hc k hlt).below hB hb
        obtain ⟨e0, e1, e2, e3, e4, e5, e6⟩ := (hc' k hlt).below hB hb'
        have hbr : b < wr.heap.size := Nat.lt_of_lt_of_le hb hB.size
        have hbr' : b' < wr.heap.size := Nat.lt_of_lt_of_le hb' hB.size
        clear hB hc hc'
        go_wp2_with fail
        go_region_held3 (fun W => W.cell? ⟨b, off + k * 7, none⟩ = some (.int .i64 (evAt l k).t) ∧ W.cell? ⟨b, off + k * 7 + 1, none⟩ = some (.int .i64 (evAt l k).s) ∧ W.cell? ⟨b, off + k * 7 + 2, none⟩ = some (.int .i64 (evAt l k).q) ∧ W.cell? ⟨b, off + k * 7 + 3, none⟩ = some (.int .i64 (evAt l k).d) ∧ W.cell? ⟨b, off + k * 7 + 4, none⟩ = some (.int .i64 (evAt l k).k) ∧ W.cell? ⟨b, off + k * 7 + 5, none⟩ = some (.int .i64 (evAt l k).v) ∧ W.cell? ⟨b, off + k * 7 + 6, none⟩ = some (.int .i64 (evAt l k).g) ∧ W.cell? ⟨b', off' + k * 7, none⟩ = some (.int .i64 (evAt l k).t) ∧ W.cell? ⟨b', off' + k * 7 + 1, none⟩ = some (.int .i64 (evAt l k).s) ∧ W.cell? ⟨b', off' + k * 7 + 2, none⟩ = some (.int .i64 (evAt l k).q) ∧ W.cell? ⟨b', off' + k * 7 + 3, none⟩ = some (.int .i64 (evAt l k).d) ∧ W.cell? ⟨b', off' + k * 7 + 4, none⟩ = some (.int .i64 (evAt l k).k) ∧ W.cell? ⟨b', off' + k * 7 + 5, none⟩ = some (.int .i64 (evAt l k).v) ∧ W.cell? ⟨b', off' + k * 7 + 6, none⟩ = some (.int .i64 (evAt l k).g)) ((repeat' apply And.intro) <;> first | (go_keep; done) | (rw [hcA _ _ (by first | omega | (simp; omega) | simp [*])]; simp [*]; done))
          (first | (go_at_call 21; refine (eqEvent_same _ _ _ _ _ _ _ _).mono ?_; rintro e w2 ⟨rfl, hb2⟩; obtain ⟨hcA, hfA⟩ := bcell hb2))
        clear hcA hfA
        go_wp2
        go_roundw
        case rel => exact ⟨k + 1, by omega, by go_num, HB.out.drew.trans (hb2.mono (by have := HB.out.size; simpa using this))⟩
        case measure => simp [intOf]; omega
      · clear hB hc hc'
        go_wp2
        go_ret
        exact ⟨rfl, HB.out⟩
end Go.Proofs.Ythklekjglocbgaa

/- How a list of events that came in is read. -/
namespace Go.Proofs.Ythklekjglocbgaa
open Go.ChangeShapes Go.WideShapes Go.ChangeAt Go.RowKit

theorem evs_list {w : World} {b off : Nat} : ∀ n, (∀ i, i < n → ∃ e : Ev, Ev.In w b (off + i * 7) e) → ∃ l : List Ev, l.length = n ∧ ∀ i, i < n → Ev.In w b (off + i * 7) (evAt l i)
  | 0, _ => ⟨[], rfl, fun i hi => by omega⟩
  | n + 1, h => by
    obtain ⟨l, hl, hi⟩ := evs_list n (fun i hi => h i (by omega))
    obtain ⟨e, he⟩ := h n (by omega)
    refine ⟨l ++ [e], by simp [hl], fun i hi' => ?_⟩
    by_cases hin : i < n
    · have : evAt (l ++ [e]) i = evAt l i := by unfold evAt; simp [List.getElem?_append_left (by omega : i < l.length)]
      rw [this]; exact hi i hin
    · have : evAt (l ++ [e]) i = e := by unfold evAt; simp [show i = l.length by omega]
      rw [this, show i = n by omega]; exact he

theorem add_plain (b off n : Nat) : (⟨b, off, none⟩ : Addr).add n = ⟨b, off + n, none⟩ := by
  unfold Addr.add
  split <;> simp_all
theorem open_evs {H : Type} {enc : TypeId × Value → H} {w : World} {b0 : Nat} {spare : Nat → Bool} {held : Bool} {r : Reach} {v : Value} {d : DataW H} {p : List MemPlace}
    (hv : Value.okWide Try.prog w r b0 22 v) (h : DataW.Trod enc Try.prog w 0 spare held 22 v d p) : ∃ l : List Ev, IsEvs w v l := by
  obtain ⟨a0, len, cap, rfl⟩ := okWide_slice Try.underlying22 hv
  obtain ⟨fuel, hf⟩ := h
  rcases DataW.trod_slice Try.underlying22 hf with ⟨hcs, _⟩ | ⟨a, len', cap', elems, rest, n, _, hcs, _, hb, hl, hm, hlen, hel, _, _⟩
  · simp [Value.cells] at hcs
    obtain ⟨rfl, rfl, rfl⟩ := hcs
    exact ⟨[], _, _, rfl, Nat.le_refl _, by unfold maxLen; omega, .inl rfl⟩
  · simp [Value.cells] at hcs
    obtain ⟨rfl, rfl, rfl⟩ := hcs
    by_cases h0 : len = 0
    · subst h0
      exact ⟨[], _, _, rfl, hl, hm, .inl rfl⟩
    · obtain ⟨b, off, spot⟩ := a
      have hs : spot = none := by
        have h1 := hel 0 (by omega)
        rw [cells23, List.getElem?_eq_getElem (by omega)] at h1
        obtain ⟨cs, hc, ht⟩ := Option.bind_eq_some_iff.1 h1
        obtain ⟨t, s, q, d, k, v, g, rfl, _⟩ := trod_ev ht
        have c0 := (World.cells?_some hc).2.2 0 (by omega)
        simpa [Addr.add] using World.cell?_spot c0
      subst hs
      have each : ∀ i, i < len → ∃ e : Ev, Ev.In w b (off + i * 7) e ∧ b < w.heap.size := by
        intro i hi
        have h1 := hel i hi
        rw [cells23, List.getElem?_eq_getElem (by omega), add_plain] at h1
        obtain ⟨cs, hc, ht⟩ := Option.bind_eq_some_iff.1 h1
        obtain ⟨t, s, q, d, k, v, g, rfl, _⟩ := trod_ev ht
        have hblk : b < w.heap.size := World.cells?_block hc (by omega)
        obtain ⟨_, _, hcell⟩ := World.cells?_some hc
        simp only [add_plain] at hcell
        exact ⟨⟨t, s, q, d, k, v, g⟩, ⟨hcell 0 (by omega), hcell 1 (by omega), hcell 2 (by omega), hcell 3 (by omega), hcell 4 (by omega), hcell 5 (by omega), hcell 6 (by omega)⟩, hblk⟩
      obtain ⟨_, _, hblk⟩ := each 0 (by omega)
      obtain ⟨l, rfl, hi⟩ := evs_list (w := w) (b := b) (off := off) len (fun i hi => by
        obtain ⟨e, he, _⟩ := each i hi
        exact ⟨e, he⟩)
      exact ⟨l, _, _, rfl, hl, hm, .inr ⟨b, off, rfl, hblk, hi⟩⟩
end Go.Proofs.Ythklekjglocbgaa

/- At every list of events the program's HeapOf answers as the specification's, writes into no argument and keeps nothing of one, its answer owns its memory, behind another call too; the arguments read behind the call as they read before; no condition. -/
namespace Go.Proofs.Ythklekjglocbgaa.LawHeapOf
open Go.ChangeShapes Go.WideShapes Go.ChangeAt Go.RowKit Go.Proofs.Ythklekjglocbgaa

set_option maxHeartbeats 8000000 in
theorem walk (x : Value) (l : List Ev) (w : World) (hx : IsEvs w x l) :
    Calls Try.prog 7 #[x] w fun e w' => e = .returned (.bool true) ∧ Below w.heap.size w w' := by
  have HX : Hid (LowEvs w.heap.size w x l) := hx.low
  obtain ⟨a, cap, rfl, h1, h2, _⟩ := hx
  by_cases hl : l.length ≤ 1048576
  · have hlt : ¬ ((1048576 : Int) - (l.length : Int) < 0) := by omega
    obtain ⟨l', bb, hl', hsp, him⟩ := of_both l hl
    have HSP : Hid (∀ (w : World) (g : Nat), RowTo w g l.length l l.length → Calls Try.prog 24 #[.slice (some ⟨g, 0, none⟩) l.length l.length] w fun e w' => Answers w.heap.size l' bb e w' ∧ Below w.heap.size w w') := hsp
    have HIM : Hid (∀ (w : World) (g : Nat), RowTo w g l.length l l.length → Calls Try.prog 25 #[.slice (some ⟨g, 0, none⟩) l.length l.length] w fun e w' => Answers w.heap.size l' bb e w' ∧ Below w.heap.size w w') := him
    have hk0 : (0 : Int) ≤ 7 * (l.length : Int) + 1 := by omega
    clear h1 h2 hsp him
    go_enter Try.func7, Try.ntmps7
    go_wp2_with fail
    refine (sz_small a l.length cap _ hl).mono ?_
    rintro e w' ⟨rfl, hw⟩
    have hw' := hw.symm
    clear hw
    subst hw'
    go_wp2_with fail
    refine (toEventS_any _ l _ hl HX.out.isEvs).mono ?_
    rintro e w1 ⟨rfl, hb1, hr1⟩
    have HR1 : Hid (RowTo w1 w.heap.size l.length l l.length) := hr1
    have HB1 : Hid (Below w.heap.size w w1) := hb1
    clear hr1 hb1
    go_wp2_with fail
    refine (HSP.out _ _ HR1.out).mono ?_
    rintro e w2 ⟨⟨xs, rfl, hxs⟩, hb2⟩
    have HS2 : Hid (LowEvs w2.heap.size w2 xs l') := hxs.isEvs.low
    have HB2 : Hid (Below w.heap.size w w2) := HB1.out.trans (hb2.mono HB1.out.size)
    have HX2 : Hid (LowEvs w.heap.size w2 (.slice a l.length cap) l) := HX.out.below HB2.out
    clear hxs hb2 HR1 HB1 HSP
    go_wp2_with fail
    refine (toEventS_any _ l _ hl HX2.out.isEvs).mono ?_
    rintro e w3 ⟨rfl, hb3, hr3⟩
    have HR3 : Hid (RowTo w3 w2.heap.size l.length l l.length) := hr3
    have HB3 : Hid (Below w.heap.size w w3) := HB2.out.trans (hb3.mono HB2.out.size)
    have HS3 : Hid (LowEvs w2.heap.size w3 xs l') := HS2.out.below hb3
    have hz23 : w2.heap.size < w3.heap.size := hr3.1
    have hz02 : w.heap.size ≤ w2.heap.size := HB2.out.size
    clear hr3 hb3 HS2 HX2
    go_wp2_with fail
    refine (HIM.out _ _ HR3.out).mono ?_
    rintro e w4 ⟨⟨xg, rfl, hxg⟩, hb4⟩
    have HG4 : Hid (OwnEvs w3.heap.size w4 xg l') := hxg
    have HB4 : Hid (Below w.heap.size w w4) := HB3.out.trans (hb4.mono HB3.out.size)
    have HS4 : Hid (LowEvs w2.heap.size w4 xs l') := HS3.out.below (hb4.mono (by omega))
    have HR4 : Hid (RowTo w4 w2.heap.size l.length l l.length) := HR3.out.below hb4 hz23
    have hz34 : w3.heap.size ≤ w4.heap.size := hb4.size
    clear hxg hb4 HS3 HR3 HB3
    have hL' : l'.length ≤ 1048576 ∨ l'.length = 1048577 := by omega
    go_wp2_with fail
    refine (eqS_same' _ _ l' _ hl' HG4.out.isEvs HS4.out.isEvs).mono ?_
    rintro e w5 ⟨rfl, hb5⟩
    have HG5 : Hid (OwnEvs w3.heap.size w5 xg l') := HG4.out.below hb5
    have HB5 : Hid (Below w.heap.size w w5) := HB4.out.trans (hb5.mono HB4.out.size)
    have HS5 : Hid (LowEvs w2.heap.size w5 xs l') := HS4.out.below (hb5.mono (by omega))
    have HR5 : Hid (RowTo w5 w2.heap.size l.length l l.length) := HR4.out.below hb5 (by omega)
    have hz45 : w4.heap.size ≤ w5.heap.size := hb5.size
    have HX5 : Hid (LowEvs w.heap.size w5 (.slice a l.length cap) l) := HX.out.below HB5.out
    clear hb5 HG4 HS4 HR4 HB4 HB2
    go_wp2_with fail
    refine (toEventS_any _ l _ hl HX5.out.isEvs).mono ?_
    rintro e w6 ⟨rfl, hb6, hr6⟩
    have HT6 : Hid (IsEvs w6 (.slice (some ⟨w5.heap.size, 0, none⟩) l.length l.length) l) := hr6.isEvs hl
    have HG6 : Hid (OwnEvs w3.heap.size w6 xg l') := HG5.out.below hb6
    have HB6 : Hid (Below w.heap.size w w6) := HB5.out.trans (hb6.mono HB5.out.size)
    have HS6 : Hid (LowEvs w2.heap.size w6 xs l') := HS5.out.below (hb6.mono (by omega))
    have HR6 : Hid (RowTo w6 w2.heap.size l.length l l.length) := HR5.out.below hb6 (by omega)
    have hz56 : w5.heap.size ≤ w6.heap.size := hb6.size
    clear hb6 hr6 HG5 HS5 HR5 HB5 HX5
    go_wp2_with fail
    refine (eqS_same _ _ l _ hl (HR6.out.isEvs hl) HT6.out).mono ?_
    rintro e w7 ⟨rfl, hb7⟩
    have HG7 : Hid (OwnEvs w3.heap.size w7 xg l') := HG6.out.below hb7
    have HB7 : Hid (Below w.heap.size w w7) := HB6.out.trans (hb7.mono HB6.out.size)
    have HS7 : Hid (LowEvs w2.heap.size w7 xs l') := HS6.out.below (hb7.mono (by omega))
    have HR7 : Hid (RowTo w7 w2.heap.size l.length l l.length) := HR6.out.below hb7 (by omega)
    have hz67 : w6.heap.size ≤ w7.heap.size := hb7.size
    clear hb7 HG6 HS6 HR6 HB6 HT6
    go_wp2_with fail
    refine (mark_any w2.heap.size l.length l.length l _ (by omega) ⟨HR7.out.1, HR7.out.2.1, fun i hi => by omega⟩).mono ?_
    rintro e w8 ⟨rfl, _, hg8⟩
    have HG8 : Hid (OwnEvs w3.heap.size w8 xg l') := HG7.out.other hz23 hg8
    have HB8 : Hid (Below w.heap.size w w8) := HB7.out.grown hg8 (by omega) (fun k e => by cases e; omega)
    have HS8 : Hid (LowEvs w2.heap.size w8 xs l') := HS7.out.below ((Below.refl _ w7).grown hg8 (by omega) (fun k e => by cases e; exact Nat.le_refl _))
    have hz78 : w7.heap.size ≤ w8.heap.size := hg8.size
    clear hg8 HG7 HS7 HR7 HB7
    go_wp2_with fail
    refine (eqS_same' _ _ l' _ hl' HG8.out.isEvs HS8.out.isEvs).mono ?_
    rintro e w9 ⟨rfl, hb9⟩
    have HG9 : Hid (OwnEvs w3.heap.size w9 xg l') := HG8.out.below hb9
    have HB9 : Hid (Below w.heap.size w w9) := HB8.out.trans (hb9.mono HB8.out.size)
    have HS9 : Hid (LowEvs w2.heap.size w9 xs l') := HS8.out.below (hb9.mono (by omega))
    have hz89 : w8.heap.size ≤ w9.heap.size := hb9.size
    clear hb9 HG8 HS8 HB8
    go_wp2_with fail
    refine (mark_own HG9.out hl').mono ?_
    rintro e w10 ⟨m, hm, rfl, hh10, ht10⟩
    have HH10 : Hid (HeldIn w10 xg m) := hh10
    have hbt : Below w3.heap.size w9 w10 := ht10.below (by omega)
    have HB10 : Hid (Below w.heap.size w w10) := HB9.out.trans (hbt.mono (by omega))
    have HS10 : Hid (LowEvs w2.heap.size w10 xs l') := HS9.out.below (hbt.mono (by omega))
    have hz910 : w9.heap.size ≤ w10.heap.size := hbt.size
    have hmn : ¬ (m < 0) := by omega
    clear hh10 ht10 hbt HG9 HS9 HB9
    go_wp2_with fail
    refine (held_in HH10.out).mono ?_
    rintro e w' ⟨rfl, hw⟩
    have hw' := hw.symm
    clear hw
    subst hw'
    have HX10 : Hid (LowEvs w.heap.size w10 (.slice a l.length cap) l) := HX.out.below HB10.out
    go_wp2_with fail
    refine (toEventS_any _ l _ hl HX10.out.isEvs).mono ?_
    rintro e w11 ⟨rfl, hb11, hr11⟩
    have HR11 : Hid (RowTo w11 w10.heap.size l.length l l.length) := hr11
    have HH11 : Hid (HeldIn w11 xg m) := HH10.out.below hb11
    have HB11 : Hid (Below w.heap.size w w11) := HB10.out.trans (hb11.mono HB10.out.size)
    have HS11 : Hid (LowEvs w2.heap.size w11 xs l') := HS10.out.below (hb11.mono (by omega))
    have hz1011 : w10.heap.size ≤ w11.heap.size := hb11.size
    clear hb11 hr11 HH10 HS10 HB10 HX10
    go_wp2_with fail
    refine (HIM.out _ _ HR11.out).mono ?_
    rintro e w12 ⟨⟨xh, rfl, hxh⟩, hb12⟩
    have HK12 : Hid (IsEvs w12 xh l') := hxh.isEvs
    have HH12 : Hid (HeldIn w12 xg m) := HH11.out.below hb12
    have HB12 : Hid (Below w.heap.size w w12) := HB11.out.trans (hb12.mono HB11.out.size)
    have HS12 : Hid (LowEvs w2.heap.size w12 xs l') := HS11.out.below (hb12.mono (by omega))
    have hz1112 : w11.heap.size ≤ w12.heap.size := hb12.size
    clear hb12 hxh HH11 HS11 HB11 HIM HR11
    go_wp2_with fail
    refine (eqS_same' _ _ l' _ hl' HK12.out HS12.out.isEvs).mono ?_
    rintro e w13 ⟨rfl, hb13⟩
    have HH13 : Hid (HeldIn w13 xg m) := HH12.out.below hb13
    have HB13 : Hid (Below w.heap.size w w13) := HB12.out.trans (hb13.mono HB12.out.size)
    clear hb13 HH12 HS12 HB12 HK12
    go_wp2_with fail
    refine (held_in HH13.out).mono ?_
    rintro e w' ⟨rfl, hw⟩
    have hw' := hw.symm
    clear hw
    subst hw'
    go_wp2
    go_ret
    exact ⟨rfl, HB13.out⟩
  · go_enter Try.func7, Try.ntmps7
    go_wp2_with fail
    refine (sz_big a l.length cap _ (Nat.le_trans h1 h2) hl).mono ?_
    rintro e w' ⟨rfl, hw⟩
    have hw' := hw.symm
    clear hw
    subst hw'
    go_wp2
    go_ret
    exact ⟨rfl, Below.refl _ _⟩

set_option maxRecDepth 100000 in
theorem lifted (os : Os) (started : os.Started) (H : Type) (enc : TypeId × Value → H) :
    ReturnsInHanded {} Try.checked os 7 .any (Rows.fnExactHeapOfSpec.pre6 enc Try.prog Try.f7 Rows.fnExactHeapOfRow.domain false) (Rows.fnExactHeapOfSpec.post enc Try.prog Try.f7 false true false false) := by
  refine returnsInHanded_of_change (C := Try.checked) own started (by kernel_rfl) Try.func7
    (ChangeSpec.witness6 (enc := enc) (C := Try.checked) false ⟨#[], #[.slice none 0 0], []⟩ 8 (by kernel_rfl) (by kernel_rfl) (by kernel_rfl) (by kernel_rfl)) ?_
  intro W base args ds gs before hval0 hW hcnd _
  have hval : ∀ (j : Nat) t v, Try.f7.params[j]? = some t → args[j]? = some v → Value.okWide Try.prog W .any base t v := hval0
  have hW' := hW
  obtain ⟨p, q, hA0, hV, rfl, hfz, hnd⟩ := hW
  have hA : DataW.TrodAll enc Try.prog W 0 (fun _ => true) true Try.f7.params.toList args.toList ds p := hA0
  rw [Try.params7] at hA hval
  obtain ⟨v0, vs0, d0, ds0, p0, q0, hargs, rfl, rfl, h0, r0⟩ := trodAll_cons hA
  obtain ⟨rfl, rfl, rfl⟩ := trodAll_nil r0
  obtain rfl : args = #[v0] := by cases args; simp_all
  obtain ⟨rfl, rfl⟩ := trodVars_none hV
  have k0 := h0
  have lt0 : ∀ x ∈ p0, x.block < W.heap.size := by obtain ⟨m, hm⟩ := k0; exact DataW.trod_lt m _ _ _ hm
  obtain ⟨l0, g0⟩ := open_evs (hval 0 22 v0 rfl rfl) h0
  clear hA0 hval0
  refine (walk v0 l0 W g0).mono fun e W' ⟨he, bel⟩ => ?_
  subst he
  exact ⟨_, rfl, _, _, _, [], _, [], hW', trodAll_mk1 (shut_bool Try.underlying4 _), (trodAll_cons_mk (Below.trod laidOut (by kernel_rfl) (of_decide_eq_true (by kernel_rfl)) k0 bel lt0) trodAll_mk0), rfl, bel.frame _, fun h => by cases h⟩

theorem over : Rows.fnExactHeapOfRow.holds Try.pinned (OpenSpec.ofChange Rows.fnExactHeapOfSpec) :=
  OpenClaim.holds_of_wide 7 Try.f7 rfl rfl rfl rfl rfl rfl rfl ⟨rfl, rfl, rfl, rfl, rfl⟩ rfl rfl rfl rfl rfl (by kernel_rfl) Try.func7 (by kernel_rfl)
    (of_decide_eq_true (by kernel_rfl)) (by unfold Func.isWrapper; first | (rw [if_pos (by decide +kernel)]; kernel_rfl) | (rw [if_neg (by decide +kernel)]; exact ⟨rfl, rfl⟩))
    (fun os started H enc _ => lifted os started H enc)
end Go.Proofs.Ythklekjglocbgaa.LawHeapOf
namespace Go.Proofs.Ythklekjglocbgaa
theorem heapOf_holds : Rows.FnExactHeapOfSaid := LawHeapOf.over
#print axioms heapOf_holds
end Go.Proofs.Ythklekjglocbgaa

