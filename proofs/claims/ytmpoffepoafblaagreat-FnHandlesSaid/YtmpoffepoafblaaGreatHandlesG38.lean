/- LHanP, CPing -/
import Derived.Test.YtmpoffepoafblaaGreatHandlesG37
import Derived.Test.YtmpoffepoafblaaGreatHandlesG21
import Derived.Test.YtmpoffepoafblaaGreatHandlesG01
import Derived.Test.YtmpoffepoafblaaGreatHandlesG03
/- What Handle answers, in plain words; laws.sameState of two alike. -/
namespace Go.Proofs.YtmpoffepoafblaaGreat
open Go.RowKit
theorem run_asksN {sd : Int} {v : List Int} {e : Ev} {l : List O} : ∀ (f i : Nat) (t : Tn) {k : Int}, run sd v e l f i t = .asks k → intAt v k.toNat < 0 ∧ ∃ j, j < l.length ∧ (oAt l j).c = 4 ∧ (oAt l j).a = k
  | 0, _, _, _, h => by simp [run] at h
  | f + 1, i, t, k, h => by
    unfold run at h
    split at h
    · rename_i hi
      split at h
      · rename_i hw
        simp only [Res.asks.injEq] at h
        refine ⟨?_, i, hi, hw.1, h⟩
        rw [← h]
        exact hw.2
      · exact run_asksN f _ _ h
    · cases h
def Told (e : Ev) (x : List Em) : Prop := ∀ j, j < x.length → (xAt x j).t = e.t ∧ (xAt x j).l = e.d
theorem Told.snoc {e : Ev} {x : List Em} (h : Told e x) (v : Int) : Told e (x ++ [⟨e.t, e.d, v⟩]) := by
  intro j hj
  by_cases hlt : j < x.length
  · rw [show xAt (x ++ [⟨e.t, e.d, v⟩]) j = xAt x j by unfold xAt; simp [List.getElem?_append_left hlt]]
    exact h j hlt
  · obtain rfl : j = x.length := by simp at hj; omega
    rw [show xAt (x ++ [⟨e.t, e.d, v⟩]) x.length = ⟨e.t, e.d, v⟩ by unfold xAt; simp]
    exact ⟨rfl, rfl⟩
theorem step_told {sd : Int} {v : List Int} {e : Ev} {o : O} {t : Tn} (h : Told e t.x) : Told e (stepO sd v e o t).x := by
  have hp : ∀ r z, (t.put r z).x = t.x := fun r z => by unfold Tn.put; split <;> rfl
  unfold stepO
  split
  · rw [hp]; exact h
  · split
    · rw [hp]; exact h
    · split
      · exact h
      · split
        · show Told e (t.put _ _).x
          rw [hp]; exact h
        · split
          · rw [hp]; exact h
          · split
            · exact h.snoc _
            · exact h
theorem run_told {sd : Int} {v : List Int} {e : Ev} {l : List O} : ∀ (f i : Nat) (t : Tn) {t' : Tn}, Told e t.x → run sd v e l f i t = .done t' → Told e t'.x
  | 0, _, _, _, h, hr => by simp only [run, Res.done.injEq] at hr; rw [← hr]; exact h
  | f + 1, i, t, t', h, hr => by
    unfold run at hr
    split at hr
    · split at hr
      · cases hr
      · exact run_told f _ _ (step_told h) hr
    · simp only [Res.done.injEq] at hr
      rw [← hr]
      exact h
structure Does (m : Md) (s : St) (e : Ev) (R : Ef) : Prop where
  k : R.k = -1
  sl : R.s.length ≤ 8
  xl : R.x.length ≤ 8
  q : R.st.q = s.q + (R.s.length : Int)
  r : ∃ a b : Int, R.st.r = [a, b] ∧ 0 ≤ a ∧ a ≤ 999 ∧ 0 ≤ b ∧ b ≤ 999
  s : ∀ j, j < R.s.length → e.t < (evAt R.s j).t ∧ (evAt R.s j).s = e.d ∧ (evAt R.s j).q = s.q + (j : Int) ∧ (evAt R.s j).ok = true
  x : Told e R.x
structure Asked (l : List Int) (s : St) (R : Ef) : Prop where
  k0 : 0 ≤ R.k
  k1 : R.k ≤ 3
  v : intAt l R.k.toNat < 0
  st : R.st = s
  s : R.s = []
  x : R.x = []
theorem han_facts {m : Md} {l : List Int} {s : St} {e : Ev} (h : handB m l s e = true) : 0 ≤ s.q ∧ s.q ≤ 99992 ∧ l.length = 4 ∧ (Asked l s (handR m l s e) ∨ Does m s e (handR m l s e)) := by
  have hR : handR m l s e = effR m l s e := by simp [handR, h]
  rw [hR]
  simp only [handB, Bool.and_eq_true] at h
  obtain ⟨hm, hv, hs, he, hf⟩ := h
  obtain ⟨c0, c1, c2, c3, rfl, hvc⟩ := vec_of hv
  simp only [fitB, decide_eq_true_eq] at hf
  have hs' := hs
  simp only [St.ok, decide_eq_true_eq] at hs'
  have hfit : Fit m c0 c1 c2 c3 s e := ⟨hm, hs, he, hf.2.1, hf.2.2.2.1, hvc⟩
  refine ⟨hs'.2.2.2.1, hs'.2.2.2.2.1, rfl, ?_⟩
  have hends := eff_ends hfit
  cases hrun : run m.s [c0, c1, c2, c3] e (hAt m.h e.k.toNat) (hAt m.h e.k.toNat).length 0 (startT s) with
  | asks k =>
    have hE : effR m [c0, c1, c2, c3] s e = ⟨⟨[intAt s.r 0, intAt s.r 1], s.q, s.d⟩, [], [], k⟩ := by unfold effR; rw [hrun]; rfl
    rw [hE] at hends ⊢
    obtain ⟨hneg, j, hj, hc, ha⟩ := run_asksN _ _ _ hrun
    have hop := (ok_row hm (j := e.k.toNat) (by omega)).2 j hj
    simp only [O.ok, okO, decide_eq_true_eq] at hop
    have hk03 : 0 ≤ k ∧ k ≤ 3 := by omega
    refine .inl ⟨hk03.1, hk03.2, hneg, ?_, rfl, rfl⟩
    · obtain ⟨r, q, d⟩ := s
      simp only at hs' ⊢
      have hl := hs'.1
      match r, hl with
      | [a, b], _ => rfl
  | done t =>
    have hE : effR m [c0, c1, c2, c3] s e = t.ef := by unfold effR; rw [hrun]; rfl
    have htold : Told e t.x := run_told _ _ _ (fun j hj => absurd hj (by simp [startT])) hrun
    rw [hE] at hends ⊢
    rcases hends with ⟨k', h0, h1, h2⟩ | ⟨t', h1, hw⟩
    · simp only [Tn.ef] at h2
      omega
    · have htt : t.a = t'.a ∧ t.b = t'.b ∧ t.q = t'.q ∧ t.d = t'.d ∧ t.s = t'.s ∧ t.x = t'.x := by
        simp only [Tn.ef, Ef.mk.injEq, St.mk.injEq, List.cons.injEq, and_true] at h1
        exact ⟨h1.1.1.1, h1.1.1.2, h1.1.2.1, h1.1.2.2, h1.2.1, h1.2.2⟩
      obtain ⟨e1, e2, e3, e4, e5, e6⟩ := htt
      simp only [Ev.ok, okB, decide_eq_true_eq] at he
      have hmd : m.hd := by
        simp only [Md.ok, Bool.and_eq_true, decide_eq_true_eq] at hm
        exact hm.1.1.1
      refine .inr ⟨rfl, by show t.s.length ≤ 8; rw [e5]; exact hw.s1, by show t.x.length ≤ 8; rw [e6]; exact hw.x1, by show t.q = s.q + (t.s.length : Int); rw [e3, e5]; exact hw.q, ⟨t.a, t.b, rfl, by rw [e1]; exact hw.a0, by rw [e1]; exact hw.a1, by rw [e2]; exact hw.b0, by rw [e2]; exact hw.b1⟩, fun j hj => ?_, htold⟩
      have hj' : j < t'.s.length := by rw [← e5]; exact hj
      have hs1 := hw.s j hj'
      have h8 := hw.s1
      show e.t < (evAt t.s j).t ∧ (evAt t.s j).s = e.d ∧ (evAt t.s j).q = s.q + (j : Int) ∧ (evAt t.s j).ok = true
      rw [e5]
      refine ⟨by have := hs1.t0; omega, hs1.s, hs1.q, ?_⟩
      simp only [Ev.ok, okB, decide_eq_true_eq]
      have a1 := hs1.s; have a2 := hs1.q; have a3 := hs1.g; have a4 := hs1.d0; have a5 := hs1.d1; have a6 := hs1.k0; have a7 := hs1.k1; have a8 := hs1.v0; have a9 := hs1.v1; have b1 := hs1.t0; have b2 := hs1.t1
      obtain ⟨d1, d2, d3, d4, d5, d6, d7, d8, d9, d10⟩ := hmd
      have hq := hs'.2.2.2
      omega
set_option maxRecDepth 100000 in
set_option maxHeartbeats 2000000 in
theorem sameS_same (x y : Value) (s : St) (w : World) (hl : s.r.length ≤ 4611686018427387904) (hx : IsS w x s) (hy : IsS w y s) :
    Calls Tryz.prog 26 #[x, y] w fun e w' => e = .returned (.bool true) ∧ Below w.heap.size w w' := by
  have HX : Hid (IsS w x s) := hx
  have HY : Hid (IsS w y s) := hy
  obtain ⟨vr, rfl, hr⟩ := hx
  obtain ⟨vq, rfl, hq⟩ := hy
  have HS : Hid (∀ W, Below w.heap.size w W → Calls Tryz.prog 33 #[vr, vq] W fun e w' => e = .returned (.bool true) ∧ Below W.heap.size W w') := fun W hW => (sameI_any vr vq s.r s.r W hl hl (hr.below hW) (hq.below hW)).mono fun e w' ⟨h1, h2⟩ => ⟨by simpa using h1, h2⟩
  have HB : Hid (Below w.heap.size w ((w.alloc (.cells #[vr, .int .i64 s.q, .int .i64 s.d] 48)).alloc (.cells #[vq, .int .i64 s.q, .int .i64 s.d] 48))) := ((Below.refl _ w).alloc (Nat.le_refl _) _).alloc (by simp) _
  obtain ⟨ar, cr, rfl, _⟩ := hr
  obtain ⟨aq, cq, rfl, _⟩ := hq
  go_enter Tryz.func26, Tryz.ntmps26
  go_wp2_with fail
  refine (HS.out _ HB.out).mono ?_
  rintro e w1 ⟨rfl, hb⟩
  have k1 := (((Bk.new w 48 #[.slice ar s.r.length cr, .int .i64 s.q, .int .i64 s.d]).alloc (.cells #[.slice aq s.r.length cq, .int .i64 s.q, .int .i64 s.d] 48)).below hb)
  have k2 := ((Bk.newAt (P := w.heap.size + 1) (w := w.alloc (.cells #[.slice ar s.r.length cr, .int .i64 s.q, .int .i64 s.d] 48)) (by simp) 48 #[.slice aq s.r.length cq, .int .i64 s.q, .int .i64 s.d]).below hb)
  have c1 := k1.cell (i := 1) rfl
  have c2 := k1.cell (i := 2) rfl
  have d1 := k2.cell (i := 1) rfl
  have d2 := k2.cell (i := 2) rfl
  have HB1 : Hid (Below w.heap.size w w1) := HB.out.trans (hb.mono HB.out.size)
  clear hb k1 k2
  go_wp2
  go_ret
  exact ⟨by simp, HB1.out⟩
end Go.Proofs.YtmpoffepoafblaaGreat

/- The fixed trial of one model: ping. -/
namespace Go.Proofs.YtmpoffepoafblaaGreat
open Go.RowKit
def pingM : Md := ⟨1, 0, [0], [[⟨0, 0, 1, 0⟩, ⟨3, 0, 3, 1⟩, ⟨4, 2, 1, 0⟩, ⟨5, 1, 0, 0⟩, ⟨2, 0, 1, 0⟩]], [⟨0, -1, 0, 0, 0, 0, 0⟩], 5⟩
set_option maxRecDepth 100000 in
set_option maxHeartbeats 4000000 in
theorem ping_any (w : World) : Calls Tryz.prog 88 #[] w fun e w' => ∃ x, e = .returned x ∧ IsM w' x pingM ∧ Below w.heap.size w w' := by
  go_enter Tryz.func88, Tryz.ntmps88
  go_wp2
  obtain ⟨A0, hA0⟩ : ∃ A0, w.alloc (.cells #[.int .i64 1, .int .i64 0, .slice (some ⟨w.heap.size + 1 + 1, 0, none⟩) 1 1, .slice (some ⟨w.heap.size + 1 + 1 + 1, 0, none⟩) 1 1, .slice (some ⟨w.heap.size + 1 + 1 + 1 + 1, 0, none⟩) 1 1, .int .i64 5] 36) = A0 := ⟨_, rfl⟩
  have s0 : A0.heap.size = w.heap.size + 1 := by rw [← hA0]; simp
  have b0 : Bk A0 w.heap.size 36 #[.int .i64 1, .int .i64 0, .slice (some ⟨w.heap.size + 1 + 1, 0, none⟩) 1 1, .slice (some ⟨w.heap.size + 1 + 1 + 1, 0, none⟩) 1 1, .slice (some ⟨w.heap.size + 1 + 1 + 1 + 1, 0, none⟩) 1 1, .int .i64 5] := hA0 ▸ Bk.new w _ _
  have hB0 : Below w.heap.size w A0 := hA0 ▸ (Below.refl _ w).alloc (Nat.le_refl _) _
  rw [hA0]
  obtain ⟨A1, hA1⟩ : ∃ A1, A0.alloc (.cells #[.int .i64 0, .int .i64 0, .int .i64 1, .int .i64 0, .int .i64 3, .int .i64 0, .int .i64 3, .int .i64 1, .int .i64 4, .int .i64 2, .int .i64 1, .int .i64 0, .int .i64 5, .int .i64 1, .int .i64 0, .int .i64 0, .int .i64 2, .int .i64 0, .int .i64 1, .int .i64 0] 181) = A1 := ⟨_, rfl⟩
  have s1 : A1.heap.size = w.heap.size + 1 + 1 := by rw [← hA1]; simp [s0]
  have b1 : Bk A1 (w.heap.size + 1) 181 #[.int .i64 0, .int .i64 0, .int .i64 1, .int .i64 0, .int .i64 3, .int .i64 0, .int .i64 3, .int .i64 1, .int .i64 4, .int .i64 2, .int .i64 1, .int .i64 0, .int .i64 5, .int .i64 1, .int .i64 0, .int .i64 0, .int .i64 2, .int .i64 0, .int .i64 1, .int .i64 0] := hA1 ▸ Bk.newAt s0.symm _ _
  have hB1 : Below w.heap.size w A1 := hA1 ▸ hB0.alloc (by omega) _
  replace b0 := hA1 ▸ b0.alloc (.cells #[.int .i64 0, .int .i64 0, .int .i64 1, .int .i64 0, .int .i64 3, .int .i64 0, .int .i64 3, .int .i64 1, .int .i64 4, .int .i64 2, .int .i64 1, .int .i64 0, .int .i64 5, .int .i64 1, .int .i64 0, .int .i64 0, .int .i64 2, .int .i64 0, .int .i64 1, .int .i64 0] 181)
  rw [hA1]
  obtain ⟨A2, hA2⟩ : ∃ A2, A1.alloc (.cells #[.int .i64 0] 3) = A2 := ⟨_, rfl⟩
  have s2 : A2.heap.size = w.heap.size + 1 + 1 + 1 := by rw [← hA2]; simp [s1]
  have b2 : Bk A2 (w.heap.size + 1 + 1) 3 #[.int .i64 0] := hA2 ▸ Bk.newAt s1.symm _ _
  have hB2 : Below w.heap.size w A2 := hA2 ▸ hB1.alloc (by omega) _
  replace b0 := hA2 ▸ b0.alloc (.cells #[.int .i64 0] 3)
  replace b1 := hA2 ▸ b1.alloc (.cells #[.int .i64 0] 3)
  rw [hA2]
  obtain ⟨A3, hA3⟩ : ∃ A3, A2.alloc (.cells #[.slice (some ⟨w.heap.size + 1, 0, none⟩) 5 5] 178) = A3 := ⟨_, rfl⟩
  have s3 : A3.heap.size = w.heap.size + 1 + 1 + 1 + 1 := by rw [← hA3]; simp [s2]
  have b3 : Bk A3 (w.heap.size + 1 + 1 + 1) 178 #[.slice (some ⟨w.heap.size + 1, 0, none⟩) 5 5] := hA3 ▸ Bk.newAt s2.symm _ _
  have hB3 : Below w.heap.size w A3 := hA3 ▸ hB2.alloc (by omega) _
  replace b0 := hA3 ▸ b0.alloc (.cells #[.slice (some ⟨w.heap.size + 1, 0, none⟩) 5 5] 178)
  replace b1 := hA3 ▸ b1.alloc (.cells #[.slice (some ⟨w.heap.size + 1, 0, none⟩) 5 5] 178)
  replace b2 := hA3 ▸ b2.alloc (.cells #[.slice (some ⟨w.heap.size + 1, 0, none⟩) 5 5] 178)
  rw [hA3]
  obtain ⟨A4, hA4⟩ : ∃ A4, A3.alloc (.cells #[.int .i64 0, .int .i64 (-1), .int .i64 0, .int .i64 0, .int .i64 0, .int .i64 0, .int .i64 0] 50) = A4 := ⟨_, rfl⟩
  have b4 : Bk A4 (w.heap.size + 1 + 1 + 1 + 1) 50 #[.int .i64 0, .int .i64 (-1), .int .i64 0, .int .i64 0, .int .i64 0, .int .i64 0, .int .i64 0] := hA4 ▸ Bk.newAt s3.symm _ _
  have hB4 : Below w.heap.size w A4 := hA4 ▸ hB3.alloc (by omega) _
  replace b0 := hA4 ▸ b0.alloc (.cells #[.int .i64 0, .int .i64 (-1), .int .i64 0, .int .i64 0, .int .i64 0, .int .i64 0, .int .i64 0] 50)
  replace b1 := hA4 ▸ b1.alloc (.cells #[.int .i64 0, .int .i64 (-1), .int .i64 0, .int .i64 0, .int .i64 0, .int .i64 0, .int .i64 0] 50)
  replace b2 := hA4 ▸ b2.alloc (.cells #[.int .i64 0, .int .i64 (-1), .int .i64 0, .int .i64 0, .int .i64 0, .int .i64 0, .int .i64 0] 50)
  replace b3 := hA4 ▸ b3.alloc (.cells #[.int .i64 0, .int .i64 (-1), .int .i64 0, .int .i64 0, .int .i64 0, .int .i64 0, .int .i64 0] 50)
  rw [hA4]
  clear hA0 hA1 hA2 hA3 hA4 s0 s1 s2 s3 hB0 hB1 hB2 hB3
  have t0 := b0.cell (i := 0) rfl
  have t1 := b0.cell (i := 1) rfl
  have t2 := b0.cell (i := 2) rfl
  have t3 := b0.cell (i := 3) rfl
  have t4 := b0.cell (i := 4) rfl
  have t5 := b0.cell (i := 5) rfl
  refine bodyPost_ret (v := .agg #[.int .i64 1, .int .i64 0, .slice (some ⟨w.heap.size + 1 + 1, 0, none⟩) 1 1, .slice (some ⟨w.heap.size + 1 + 1 + 1, 0, none⟩) 1 1, .slice (some ⟨w.heap.size + 1 + 1 + 1 + 1, 0, none⟩) 1 1, .int .i64 5]) (by simp [results, Tryz.results88, go_sem, t0, t1, t2, t3, t4, t5]) rfl ⟨_, rfl, ⟨_, _, _, rfl, ?_, ?_, ?_⟩, hB4⟩
  · refine ⟨_, 1, rfl, Nat.le_refl _, by unfold maxLen; omega, .inr ⟨_, 0, rfl, b2.lt, fun i hi => ?_⟩⟩
    obtain rfl : i = 0 := by simp [pingM] at hi; omega
    exact b2.cell rfl
  · refine ⟨_, 1, rfl, Nat.le_refl _, by unfold maxLen; omega, .inr ⟨_, 0, rfl, b3.lt, fun i hi => ?_⟩⟩
    obtain rfl : i = 0 := by simp [pingM] at hi; omega
    refine ⟨_, b3.cell rfl, _, 5, rfl, Nat.le_refl _, by unfold maxLen; omega, .inr ⟨_, 0, rfl, b1.lt, fun j hj => ?_⟩⟩
    have h5 : j = 0 ∨ j = 1 ∨ j = 2 ∨ j = 3 ∨ j = 4 := by simp [pingM, hAt] at hj; omega
    rcases h5 with rfl | rfl | rfl | rfl | rfl <;> exact ⟨b1.cell rfl, b1.cell rfl, b1.cell rfl, b1.cell rfl⟩
  · refine ⟨_, 1, rfl, Nat.le_refl _, by unfold maxLen; omega, .inr ⟨_, 0, rfl, b4.lt, fun i hi => ?_⟩⟩
    obtain rfl : i = 0 := by simp [pingM] at hi; omega
    exact ⟨b4.cell rfl, b4.cell rfl, b4.cell rfl, b4.cell rfl, b4.cell rfl, b4.cell rfl, b4.cell rfl⟩
end Go.Proofs.YtmpoffepoafblaaGreat

