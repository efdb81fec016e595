/- The program's effectOf: a part's turn over one event. -/
import Derived.Test.YtnmcjgkeionjkaaGreatExactHandleG24
namespace Go.Proofs.YtnmcjgkeionjkaaGreat
open Go.RowKit
/- What Handle wants of an event, a vector, a state. -/
structure Fit (m : Md) (c0 c1 c2 c3 : Int) (s : St) (e : Ev) : Prop where
  ok : m.ok = true
  st : s.ok = true
  ev : e.ok = true
  d : e.d < m.n
  k : e.k < (m.h.length : Int)
  vc : ∀ a : Int, -1 ≤ vecAt c0 c1 c2 c3 a ∧ vecAt c0 c1 c2 c3 a ≤ 1
theorem ok_row {m : Md} (h : m.ok = true) {j : Nat} (hj : j < m.h.length) : (hAt m.h j).length ≤ 8 ∧ ∀ i, i < (hAt m.h j).length → (oAt (hAt m.h j) i).ok m.n m.h.length = true := by
  simp only [Md.ok, Bool.and_eq_true] at h
  have h1 := h.1.2
  unfold Md.okH at h1
  rw [List.all_eq_true] at h1
  have h2 := h1 j (by simpa using hj)
  unfold rowB at h2
  simp only [Bool.and_eq_true, decide_eq_true_eq] at h2
  refine ⟨h2.1, fun i hi => ?_⟩
  have h3 := h2.2
  rw [List.all_eq_true] at h3
  exact h3 i (by simpa using hi)
theorem ok_seed {m : Md} (h : m.ok = true) : 0 ≤ m.s ∧ m.s ≤ 65535 ∧ 1 ≤ m.n ∧ m.n ≤ 4 ∧ m.h.length ≤ 4 ∧ 0 ≤ m.z ∧ m.z ≤ 950 := by
  simp only [Md.ok, Bool.and_eq_true, decide_eq_true_eq] at h
  have := h.1.1.1
  unfold Md.hd at this
  omega
theorem ev_nums {e : Ev} (h : e.ok = true) : 0 ≤ e.t ∧ e.t ≤ 1000 ∧ 0 ≤ e.d ∧ e.d ≤ 3 ∧ 0 ≤ e.k ∧ e.k ≤ 3 ∧ 0 ≤ e.v ∧ e.v ≤ 999 := by
  have h' : okB e.t e.s e.q e.d e.k e.v e.g = true := h
  simp [okB] at h'
  omega
theorem st_good {s : St} (h : s.ok = true) : s.r.length = 2 ∧ GoodT (startT s) 0 := by
  simp only [St.ok, decide_eq_true_eq] at h
  exact ⟨h.1, ⟨h.2.1.1, h.2.1.2, h.2.2.1.1, h.2.2.1.2, h.2.2.2.1, by have := h.2.2.2.2.1; show s.q ≤ _; omega, h.2.2.2.2.2.1, by have := h.2.2.2.2.2.2; show s.d ≤ _; omega, by simp [startT], by simp [startT]⟩⟩
/- What is owned stays owned behind a store into the answer's own block. -/
theorem efR_turns {w w' : World} {B P R : Nat} {pre : List Value} {T : TypeId} {t : Tn} {k : Int} {g cap : Nat} {us ux : Value} {vs : Array Value} (h : Eff B w P T pre t k g cap us ux) (hR : Bk w R 69 vs) (ht : Turns (fun k => k = R) w w') :
    EfF (fun j => B ≤ j ∧ j < w'.heap.size) w' (.agg #[vReg g cap, .int .i64 t.q, .int .i64 t.d, us, ux, .int .i64 (-1)]) t.ef := by
  have hn : ∀ (T' : TypeId), T' ≠ 69 → ∀ k cur, w.heap[k]? = some (.cells cur T') → ¬ k = R := fun T' hT k cur e1 e2 => by
    have e3 : w.heap[R]? = some (.cells vs 69) := hR
    rw [e2, e3] at e1
    cases e1
    exact hT rfl
  exact ef_of (r := [t.a, t.b]) (own_turns h.r ht (hn _ (by decide))) (own_turns h.s ht (hn _ (by decide))) (own_turns h.x ht (hn _ (by decide)))
set_option maxRecDepth 100000 in
set_option maxHeartbeats 16000000 in
theorem iEff (x y : Value) (m : Md) (c0 c1 c2 c3 : Int) (s : St) (e : Ev) (w : World) (hm : IsM w x m) (hs : IsS w y s) (hf : Fit m c0 c1 c2 c3 s e) :
    Calls Tryz.prog 99 #[x, vec c0 c1 c2 c3, y, .agg #[.int .i64 e.t, .int .i64 e.s, .int .i64 e.q, .int .i64 e.d, .int .i64 e.k, .int .i64 e.v, .int .i64 e.g]] w fun r w' => ∃ u, r = .returned u ∧ Below w.heap.size w w' ∧ EfF (fun k => w.heap.size ≤ k ∧ k < w'.heap.size) w' u (effR m [c0, c1, c2, c3] s e) := by
  obtain ⟨h2, hgt⟩ := st_good hf.st
  obtain ⟨hs0, hs1, hn0, hn1, hh4, _, _⟩ := ok_seed hf.ok
  obtain ⟨ht0, ht1, hd0, hd1, hk0, hk3, hv0, hv1⟩ := ev_nums hf.ev
  obtain ⟨kk, hkk⟩ : ∃ kk : Nat, e.k = (kk : Int) := ⟨e.k.toNat, by omega⟩
  have hkl : kk < m.h.length := by have := hf.k; omega
  obtain ⟨hr8, hrok⟩ := ok_row hf.ok hkl
  have HSS : Hid (IsS w y s) := hs
  obtain ⟨vi, vh, vs, rfl, ⟨ai, ci, rfl, _⟩, ⟨ah, ch, rfl, hh1, hh2, hh3⟩, ⟨ae, ce, rfl, _⟩⟩ := hm
  obtain ⟨bh, offh, rfl, hbh, hch⟩ := hh3.resolve_left (by intro e; rw [e] at hkl; simp at hkl)
  obtain ⟨uh, f0, ⟨a1, cu, rfl, _, _, hu⟩⟩ := hch kk hkl
  obtain ⟨b2, off2, cap2, rfl, hb2, q0, q1⟩ := hs.two h2
  have HRUN : Hid (effR m [c0, c1, c2, c3] s e = resE s (run m.s [c0, c1, c2, c3] e (hAt m.h kk) (hAt m.h kk).length 0 (startT s))) := by unfold effR; rw [hkk]; rfl
  have HVC : Hid (∀ a : Int, -1 ≤ vecAt c0 c1 c2 c3 a ∧ vecAt c0 c1 c2 c3 a ≤ 1) := hf.vc
  generalize effR m [c0, c1, c2, c3] s e = EF at HRUN ⊢
  have HU : Hid (hAt m.h kk = [] ∨ ∃ b off, a1 = some ⟨b, off, none⟩ ∧ OsAt w b off (hAt m.h kk)) := hu
  have HOK : Hid (∀ i, i < (hAt m.h kk).length → (oAt (hAt m.h kk) i).ok m.n m.h.length = true) := hrok
  have HGT : Hid (GoodT (startT s) 0) := hgt
  have hkh : (kk : Int) < (m.h.length : Int) := by omega
  have HKK : Hid (e.k = (kk : Int)) := hkk
  have HF0 : Hid (w.cell? ⟨bh, offh + kk, none⟩ = some (.slice a1 (hAt m.h kk).length cu)) := f0
  clear hu hrok hgt hf hs hh1 hh2 hh3 hch q0 q1 hkk f0
  obtain ⟨W0, hW0⟩ : ∃ W0, ((((((w).alloc (.cells #[.int .i64 m.n, .int .i64 m.s, .slice ai m.i.length ci, .slice (some ⟨bh, offh, none⟩) m.h.length ch, .slice ae m.e.length ce, .int .i64 m.z] 55)).alloc (.cells #[i64 c0, i64 c1, i64 c2, i64 c3] 130)).alloc (.cells #[.slice (some ⟨b2, off2, none⟩) 2 cap2, .int .i64 s.q, .int .i64 s.d] 32)).alloc (.cells #[.int .i64 e.t, .int .i64 e.s, .int .i64 e.q, .int .i64 e.d, .int .i64 e.k, .int .i64 e.v, .int .i64 e.g] 40)).alloc (.cells #[.slice none 0 0, .int .i64 0, .int .i64 0, .slice none 0 0, .slice none 0 0, .int .i64 0] 69)).alloc (.cells #[.int .i64 m.n, .int .i64 m.s, .slice ai m.i.length ci, .slice (some ⟨bh, offh, none⟩) m.h.length ch, .slice ae m.e.length ce, .int .i64 m.z, i64 c0, i64 c1, i64 c2, i64 c3, .int .i64 e.t, .int .i64 e.s, .int .i64 e.q, .int .i64 e.d, .int .i64 e.k, .int .i64 e.v, .int .i64 e.g, .slice none 0 0, .int .i64 0, .int .i64 0, .slice none 0 0, .slice none 0 0, .int .i64 0] 215) = W0 := ⟨_, rfl⟩
  have HM0 : Hid (Bk W0 w.heap.size 55 #[.int .i64 m.n, .int .i64 m.s, .slice ai m.i.length ci, .slice (some ⟨bh, offh, none⟩) m.h.length ch, .slice ae m.e.length ce, .int .i64 m.z]) := by rw [← hW0]; exact (((((Bk.new w _ _).alloc _).alloc _).alloc _).alloc _).alloc _
  have HS0 : Hid (Bk W0 (w.heap.size + 1 + 1) 32 #[.slice (some ⟨b2, off2, none⟩) 2 cap2, .int .i64 s.q, .int .i64 s.d]) := by rw [← hW0]; exact (((Bk.newAt (by simp) _ _).alloc _).alloc _).alloc _
  have HV0 : Hid (Bk W0 (w.heap.size + 1 + 1 + 1) 40 #[.int .i64 e.t, .int .i64 e.s, .int .i64 e.q, .int .i64 e.d, .int .i64 e.k, .int .i64 e.v, .int .i64 e.g]) := by rw [← hW0]; exact ((Bk.newAt (by simp) _ _).alloc _).alloc _
  have HR0 : Hid (Bk W0 (w.heap.size + 1 + 1 + 1 + 1) 69 #[.slice none 0 0, .int .i64 0, .int .i64 0, .slice none 0 0, .slice none 0 0, .int .i64 0]) := by rw [← hW0]; exact (Bk.newAt (by simp) _ _).alloc _
  have HP0 : Hid (Bk W0 (w.heap.size + 1 + 1 + 1 + 1 + 1) 215 ((preT m.n m.s m.z (.slice ai m.i.length ci) (.slice (some ⟨bh, offh, none⟩) m.h.length ch) (.slice ae m.e.length ce) c0 c1 c2 c3 e) ++ [.slice none 0 0, .int .i64 0, .int .i64 0, .slice none 0 0, .slice none 0 0, .int .i64 0] : List Value).toArray) := by rw [← hW0]; exact Bk.newAt (by simp) _ _
  have HB0 : Hid (Below w.heap.size w W0) := by rw [← hW0]; exact ((((((Below.refl _ w).alloc (Nat.le_refl _) _).alloc (by first | (simp; done) | (simp; omega)) _).alloc (by first | (simp; done) | (simp; omega)) _).alloc (by first | (simp; done) | (simp; omega)) _).alloc (by first | (simp; done) | (simp; omega)) _).alloc (by first | (simp; done) | (simp; omega)) _
  have hPl := HP0.out.lt
  have k0 := HS0.out.cell (i := 0) rfl
  have k1 := HS0.out.cell (i := 1) rfl
  have k2 := HS0.out.cell (i := 2) rfl
  go_enter Tryz.func99, Tryz.ntmps99
  go_wp2_with fail
  clear hW0 k0 k1 k2
  refine (iCopy _ s _ (HSS.out.below HB0.out) h2).mono ?_
  rintro r w1 ⟨g, c, rfl, hown, hb1⟩
  have hz1 := HB0.out.size
  have hz2 := hb1.size
  have HB1 : Hid (Below w.heap.size w w1) := HB0.out.trans (hb1.mono hz1)
  have HP1 := HP0.out.below hb1
  have hown' := own_mono hown hz1
  obtain ⟨X1, hX1⟩ : ∃ X1, put6o w1 (w.heap.size + 1 + 1 + 1 + 1 + 1) 17 (vReg g c) (.int .i64 s.q) (.int .i64 s.d) (.slice none 0 0) (.slice none 0 0) (.int .i64 (-1)) = X1 := ⟨_, rfl⟩
  have hT1 : Turns (fun k => k = (w.heap.size + 1 + 1 + 1 + 1 + 1)) w1 X1 := by rw [← hX1]; exact put6o_turns _ _ _ _ _ _ _ _ _
  have HP2 : Bk X1 (w.heap.size + 1 + 1 + 1 + 1 + 1) 215 ((preT m.n m.s m.z (.slice ai m.i.length ci) (.slice (some ⟨bh, offh, none⟩) m.h.length ch) (.slice ae m.e.length ce) c0 c1 c2 c3 e) ++ [vReg g c, .int .i64 s.q, .int .i64 s.d, .slice none 0 0, .slice none 0 0, .int .i64 (-1)] : List Value).toArray := by rw [← hX1]; exact HP1.put6o _ _ _ _ _ _
  have HE1 : Hid (Eff w.heap.size X1 (w.heap.size + 1 + 1 + 1 + 1 + 1) 215 (preT m.n m.s m.z (.slice ai m.i.length ci) (.slice (some ⟨bh, offh, none⟩) m.h.length ch) (.slice ae m.e.length ce) c0 c1 c2 c3 e) (startT s) (-1) g c (.slice none 0 0) (.slice none 0 0)) :=
    ⟨by omega, by decide, HP2, own_turns hown' hT1 (fun k cur e1 e2 => by
      have e3 : w1.heap[(w.heap.size + 1 + 1 + 1 + 1 + 1)]? = _ := HP1
      rw [show k = (w.heap.size + 1 + 1 + 1 + 1 + 1) from e2, e3] at e1
      cases e1), World.ownsRow_nil _ _ _ _, World.ownsRow_nil _ _ _ _⟩
  have HM1 : Hid (Bk X1 w.heap.size 55 #[.int .i64 m.n, .int .i64 m.s, .slice ai m.i.length ci, .slice (some ⟨bh, offh, none⟩) m.h.length ch, .slice ae m.e.length ce, .int .i64 m.z]) := (HM0.out.below hb1).turns hT1 (fun e => by omega)
  have HV1 : Hid (Bk X1 (w.heap.size + 1 + 1 + 1) 40 #[.int .i64 e.t, .int .i64 e.s, .int .i64 e.q, .int .i64 e.d, .int .i64 e.k, .int .i64 e.v, .int .i64 e.g]) := (HV0.out.below hb1).turns hT1 (fun e => by omega)
  have HS1 : Hid (Bk X1 (w.heap.size + 1 + 1) 32 #[.slice (some ⟨b2, off2, none⟩) 2 cap2, .int .i64 s.q, .int .i64 s.d]) := (HS0.out.below hb1).turns hT1 (fun e => by omega)
  have HR1 : Hid (Bk X1 (w.heap.size + 1 + 1 + 1 + 1) 69 #[.slice none 0 0, .int .i64 0, .int .i64 0, .slice none 0 0, .slice none 0 0, .int .i64 0]) := (HR0.out.below hb1).turns hT1 (fun e => by omega)
  have HB2 : Hid (Below w.heap.size w X1) := HB1.out.trans (hT1.to_below (fun k e => by omega) HB1.out.size)
  have hX1s := hT1.size
  have a17 : w1.cell? ⟨(w.heap.size + 1 + 1 + 1 + 1 + 1), 17, none⟩ = some (.slice none 0 0) := HP1.cell (i := 17) rfl
  have a18 : w1.cell? ⟨(w.heap.size + 1 + 1 + 1 + 1 + 1), 18, none⟩ = some (.int .i64 0) := HP1.cell (i := 18) rfl
  have a19 : w1.cell? ⟨(w.heap.size + 1 + 1 + 1 + 1 + 1), 19, none⟩ = some (.int .i64 0) := HP1.cell (i := 19) rfl
  have a20 : w1.cell? ⟨(w.heap.size + 1 + 1 + 1 + 1 + 1), 20, none⟩ = some (.slice none 0 0) := HP1.cell (i := 20) rfl
  have a21 : w1.cell? ⟨(w.heap.size + 1 + 1 + 1 + 1 + 1), 21, none⟩ = some (.slice none 0 0) := HP1.cell (i := 21) rfl
  have a22 : w1.cell? ⟨(w.heap.size + 1 + 1 + 1 + 1 + 1), 22, none⟩ = some (.int .i64 0) := HP1.cell (i := 22) rfl
  have af := HP1.free
  have p3 : X1.cell? ⟨w.heap.size, 3, none⟩ = some (.slice (some ⟨bh, offh, none⟩) m.h.length ch) := HM1.out.cell (i := 3) rfl
  have v4 : X1.cell? ⟨w.heap.size + 1 + 1 + 1, 4, none⟩ = some (.int .i64 (kk : Int)) := by rw [← HKK.out]; exact HV1.out.cell (i := 4) rfl
  have f1 : X1.cell? ⟨bh, offh + kk, none⟩ = some (.slice a1 (hAt m.h kk).length cu) := (HB2.out.cell (p := ⟨bh, offh + kk, none⟩) hbh).trans HF0.out
  clear hown hb1 HP1 HP2 hown' hT1 HM0 HV0 HS0 HR0 HP0
  go_wp2_with fail
  clear a17 a18 a19 a20 a21 a22 af p3 v4 f1 hX1
  refine (do_any w.heap.size (w.heap.size + 1 + 1 + 1 + 1 + 1) m.n m.s m.z _ _ _ c0 c1 c2 c3 e (startT s) g c _ _ (hAt m.h kk) _ m.n m.h.length X1 hs0 hs1 hd0 hd1 hv0 hv1 ht0 ht1 HVC.out hr8 HOK.out HGT.out ⟨a1, cu, rfl, HU.out.imp id (fun ⟨b, off, e1, h1⟩ => ⟨b, off, e1, h1.1, h1.below HB2.out h1.1⟩)⟩ HE1.out).mono ?_
  rintro r w2 ⟨rfl, hB3, hK3, t', k', g', cap', us', ux', hE3, hg3, hres⟩
  have hs3 := hB3.size
  have HB3 : Hid (Below w.heap.size w w2) := HB2.out.trans hB3
  have HR3 : Hid (Bk w2 (w.heap.size + 1 + 1 + 1 + 1) 69 #[.slice none 0 0, .int .i64 0, .int .i64 0, .slice none 0 0, .slice none 0 0, .int .i64 0]) := hK3 _ _ _ (by decide) HR1.out
  have HS3 : Hid (Bk w2 (w.heap.size + 1 + 1) 32 #[.slice (some ⟨b2, off2, none⟩) 2 cap2, .int .i64 s.q, .int .i64 s.d]) := hK3 _ _ _ (by decide) HS1.out
  have HE3 : Hid (Eff w.heap.size w2 (w.heap.size + 1 + 1 + 1 + 1 + 1) 215 (preT m.n m.s m.z (.slice ai m.i.length ci) (.slice (some ⟨bh, offh, none⟩) m.h.length ch) (.slice ae m.e.length ce) c0 c1 c2 c3 e) t' k' g' cap' us' ux') := hE3
  have HSS3 : Hid (IsS w2 (.agg #[.slice (some ⟨b2, off2, none⟩) 2 cap2, .int .i64 s.q, .int .i64 s.d]) s) := HSS.out.below HB3.out
  have HRES : Hid ((run m.s [c0, c1, c2, c3] e (hAt m.h kk) (hAt m.h kk).length 0 (startT s) = .done t' ∧ k' = -1) ∨ (run m.s [c0, c1, c2, c3] e (hAt m.h kk) (hAt m.h kk).length 0 (startT s) = .asks k' ∧ 0 ≤ k' ∧ k' ≤ 3)) := hres
  have q22 : w2.cell? ⟨(w.heap.size + 1 + 1 + 1 + 1 + 1), 22, none⟩ = some (.int .i64 k') := HE3.out.blk.cell (i := 22) rfl
  obtain ⟨us1, us2, hus⟩ := own_slice HE3.out.s
  obtain ⟨ux1, ux2, hux⟩ := own_slice HE3.out.x
  subst hus hux
  clear hB3 hK3 hE3 hg3 hres HE1 HB2 HM1 HV1 HS1 HR1 HB1 HB0 HSS HU HOK HGT HVC
  by_cases hk : k' = -1
  · obtain ⟨hrun, _⟩ := HRES.out.resolve_right (fun h => by omega)
    have HEF : Hid (EF = t'.ef) := HRUN.out.trans (by rw [hrun]; rfl)
    subst hk
    have q17 : w2.cell? ⟨(w.heap.size + 1 + 1 + 1 + 1 + 1), 17, none⟩ = some (vReg g' cap') := HE3.out.blk.cell (i := 17) rfl
    have q18 : w2.cell? ⟨(w.heap.size + 1 + 1 + 1 + 1 + 1), 18, none⟩ = some (.int .i64 t'.q) := HE3.out.blk.cell (i := 18) rfl
    have q19 : w2.cell? ⟨(w.heap.size + 1 + 1 + 1 + 1 + 1), 19, none⟩ = some (.int .i64 t'.d) := HE3.out.blk.cell (i := 19) rfl
    have q20 : w2.cell? ⟨(w.heap.size + 1 + 1 + 1 + 1 + 1), 20, none⟩ = some (.slice us1 t'.s.length us2) := HE3.out.blk.cell (i := 20) rfl
    have q21 : w2.cell? ⟨(w.heap.size + 1 + 1 + 1 + 1 + 1), 21, none⟩ = some (.slice ux1 t'.x.length ux2) := HE3.out.blk.cell (i := 21) rfl
    have r0 := HR3.out.cell (i := 0) rfl
    have r1 := HR3.out.cell (i := 1) rfl
    have r2 := HR3.out.cell (i := 2) rfl
    have r3 := HR3.out.cell (i := 3) rfl
    have r4 := HR3.out.cell (i := 4) rfl
    have r5 := HR3.out.cell (i := 5) rfl
    have rf := HR3.out.free
    clear hrun
    go_wp2
    clear r0 r1 r2 r3 r4 r5 rf q17 q18 q19 q20 q21 q22
    obtain ⟨X5, hX5⟩ : ∃ X5, put6 w2 (w.heap.size + 1 + 1 + 1 + 1) (vReg g' cap') (.int .i64 t'.q) (.int .i64 t'.d) (.slice us1 t'.s.length us2) (.slice ux1 t'.x.length ux2) (.int .i64 (-1)) = X5 := ⟨_, rfl⟩
    have hR := HR3.out.put6 (vReg g' cap') (.int .i64 t'.q) (.int .i64 t'.d) (.slice us1 t'.s.length us2) (.slice ux1 t'.x.length ux2) (.int .i64 (-1))
    have ht := put6_turns w2 (w.heap.size + 1 + 1 + 1 + 1) (vReg g' cap') (.int .i64 t'.q) (.int .i64 t'.d) (.slice us1 t'.s.length us2) (.slice ux1 t'.x.length ux2) (.int .i64 (-1))
    rw [hX5] at hR ht
    unfold put6 at hX5
    rw [hX5]
    have t0 := hR.cell (i := 0) rfl
    have t1 := hR.cell (i := 1) rfl
    have t2 := hR.cell (i := 2) rfl
    have t3 := hR.cell (i := 3) rfl
    have t4 := hR.cell (i := 4) rfl
    have t5 := hR.cell (i := 5) rfl
    have hs5 := ht.size
    refine bodyPost_ret (v := .agg #[vReg g' cap', .int .i64 t'.q, .int .i64 t'.d, .slice us1 t'.s.length us2, .slice ux1 t'.x.length ux2, .int .i64 (-1)]) (by simp [results, Tryz.results99, go_sem, t0, t1, t2, t3, t4, t5]) rfl ⟨_, rfl, HB3.out.trans (ht.to_below (fun k e => by omega) HB3.out.size), ?_⟩
    rw [HEF.out]
    exact efR_turns HE3.out HR3.out ht
  · obtain ⟨hrun, hk0, hk3⟩ := HRES.out.resolve_left (fun h => hk h.2)
    have HEF : Hid (EF = resE s (.asks k')) := HRUN.out.trans (by rw [hrun])
    clear hrun
    have HQ0 : Hid (w2.drew.cell? ⟨w.heap.size + 1 + 1, 0, none⟩ = some (.slice (some ⟨b2, off2, none⟩) 2 cap2) ∧ w2.drew.cell? ⟨w.heap.size + 1 + 1, 1, none⟩ = some (.int .i64 s.q) ∧ w2.drew.cell? ⟨w.heap.size + 1 + 1, 2, none⟩ = some (.int .i64 s.d) ∧ w2.drew.cell? ⟨(w.heap.size + 1 + 1 + 1 + 1 + 1), 22, none⟩ = some (.int .i64 k')) := ⟨(HS3.out.drew).cell (i := 0) rfl, (HS3.out.drew).cell (i := 1) rfl, (HS3.out.drew).cell (i := 2) rfl, (HE3.out.drew.blk).cell (i := 22) rfl⟩
    go_wp2
    clear q22
    go_region_held3 (fun W => W.cell? ⟨w.heap.size + 1 + 1, 0, none⟩ = some (.slice (some ⟨b2, off2, none⟩) 2 cap2) ∧ W.cell? ⟨w.heap.size + 1 + 1, 1, none⟩ = some (.int .i64 s.q) ∧ W.cell? ⟨w.heap.size + 1 + 1, 2, none⟩ = some (.int .i64 s.d) ∧ W.cell? ⟨(w.heap.size + 1 + 1 + 1 + 1 + 1), 22, none⟩ = some (.int .i64 k')) (first | with_reducible exact HQ0.out | with_reducible exact HQ1.out | with_reducible exact HQ2.out)
      (first | (go_at_call 173; refine (iCopy _ s _ (HSS3.out.below ((Below.refl _ w2).drew)) h2).mono ?_; rintro r w4 ⟨gc, cc, rfl, hown, hb4⟩; have hb5 : Below w2.heap.size w2 w4 := (Below.refl _ w2).drew.trans hb4; have HB4 : Hid (Below w.heap.size w w4) := HB3.out.trans (hb5.mono HB3.out.size); have hS4 := HS3.out.below hb5; have hP4 := HE3.out.blk.below hb5; have hR4 := HR3.out.below hb5; have HQ1 : Hid (w4.cell? ⟨w.heap.size + 1 + 1, 0, none⟩ = some (.slice (some ⟨b2, off2, none⟩) 2 cap2) ∧ w4.cell? ⟨w.heap.size + 1 + 1, 1, none⟩ = some (.int .i64 s.q) ∧ w4.cell? ⟨w.heap.size + 1 + 1, 2, none⟩ = some (.int .i64 s.d) ∧ w4.cell? ⟨(w.heap.size + 1 + 1 + 1 + 1 + 1), 22, none⟩ = some (.int .i64 k')) := ⟨(hS4).cell (i := 0) rfl, (hS4).cell (i := 1) rfl, (hS4).cell (i := 2) rfl, (hP4).cell (i := 22) rfl⟩; have htt := put6_turns w4 (w.heap.size + 1 + 1 + 1 + 1) (vReg gc cc) (.int .i64 s.q) (.int .i64 s.d) (.slice none 0 0) (.slice none 0 0) (.int .i64 k'); have HQ2 : Hid ((put6 w4 (w.heap.size + 1 + 1 + 1 + 1) (vReg gc cc) (.int .i64 s.q) (.int .i64 s.d) (.slice none 0 0) (.slice none 0 0) (.int .i64 k')).cell? ⟨w.heap.size + 1 + 1, 0, none⟩ = some (.slice (some ⟨b2, off2, none⟩) 2 cap2) ∧ (put6 w4 (w.heap.size + 1 + 1 + 1 + 1) (vReg gc cc) (.int .i64 s.q) (.int .i64 s.d) (.slice none 0 0) (.slice none 0 0) (.int .i64 k')).cell? ⟨w.heap.size + 1 + 1, 1, none⟩ = some (.int .i64 s.q) ∧ (put6 w4 (w.heap.size + 1 + 1 + 1 + 1) (vReg gc cc) (.int .i64 s.q) (.int .i64 s.d) (.slice none 0 0) (.slice none 0 0) (.int .i64 k')).cell? ⟨w.heap.size + 1 + 1, 2, none⟩ = some (.int .i64 s.d) ∧ (put6 w4 (w.heap.size + 1 + 1 + 1 + 1) (vReg gc cc) (.int .i64 s.q) (.int .i64 s.d) (.slice none 0 0) (.slice none 0 0) (.int .i64 k')).cell? ⟨(w.heap.size + 1 + 1 + 1 + 1 + 1), 22, none⟩ = some (.int .i64 k')) := ⟨(hS4.turns htt (fun e => by omega)).cell (i := 0) rfl, (hS4.turns htt (fun e => by omega)).cell (i := 1) rfl, (hS4.turns htt (fun e => by omega)).cell (i := 2) rfl, (hP4.turns htt (fun e => by omega)).cell (i := 22) rfl⟩; have HR4 : Hid (Bk w4 (w.heap.size + 1 + 1 + 1 + 1) 69 #[.slice none 0 0, .int .i64 0, .int .i64 0, .slice none 0 0, .slice none 0 0, .int .i64 0]) := hR4; have HO4 : Hid (w4.ownsRow w.heap.size 3 1 (vReg gc cc) 2 [.int .i64 (intAt s.r 0), .int .i64 (intAt s.r 1)]) := own_mono hown HB3.out.size; have r0 := hR4.cell (i := 0) rfl; have r1 := hR4.cell (i := 1) rfl; have r2 := hR4.cell (i := 2) rfl; have r3 := hR4.cell (i := 3) rfl; have r4 := hR4.cell (i := 4) rfl; have r5 := hR4.cell (i := 5) rfl; have rf := hR4.free; clear hown hb4 hb5 hS4 hP4 hR4 htt))
    clear r0 r1 r2 r3 r4 r5 rf HQ0 HQ1 HQ2
    obtain ⟨X5, hX5⟩ : ∃ X5, put6 w4 (w.heap.size + 1 + 1 + 1 + 1) (vReg gc cc) (.int .i64 s.q) (.int .i64 s.d) (.slice none 0 0) (.slice none 0 0) (.int .i64 k') = X5 := ⟨_, rfl⟩
    have hR := HR4.out.put6 (vReg gc cc) (.int .i64 s.q) (.int .i64 s.d) (.slice none 0 0) (.slice none 0 0) (.int .i64 k')
    have ht := put6_turns w4 (w.heap.size + 1 + 1 + 1 + 1) (vReg gc cc) (.int .i64 s.q) (.int .i64 s.d) (.slice none 0 0) (.slice none 0 0) (.int .i64 k')
    rw [hX5] at hR ht
    unfold put6 at hX5
    rw [hX5]
    have t0 := hR.cell (i := 0) rfl
    have t1 := hR.cell (i := 1) rfl
    have t2 := hR.cell (i := 2) rfl
    have t3 := hR.cell (i := 3) rfl
    have t4 := hR.cell (i := 4) rfl
    have t5 := hR.cell (i := 5) rfl
    have hs5 := ht.size
    go_wp2
    refine bodyPost_ret (v := .agg #[vReg gc cc, .int .i64 s.q, .int .i64 s.d, .slice none 0 0, .slice none 0 0, .int .i64 k']) (by simp [results, Tryz.results99, go_sem, t0, t1, t2, t3, t4, t5]) rfl ⟨_, rfl, HB4.out.trans (ht.to_below (fun k e => by omega) HB4.out.size), ?_⟩
    rw [HEF.out]
    have hn : ∀ (T' : TypeId), T' ≠ 69 → ∀ k cur, w4.heap[k]? = some (.cells cur T') → ¬ k = (w.heap.size + 1 + 1 + 1 + 1) := fun T' hT k cur e1 e2 => by
      have e3 : w4.heap[(w.heap.size + 1 + 1 + 1 + 1)]? = some (.cells #[.slice none 0 0, .int .i64 0, .int .i64 0, .slice none 0 0, .slice none 0 0, .int .i64 0] 69) := HR4.out
      rw [e2, e3] at e1
      cases e1
      exact hT rfl
    exact ef_of (r := [intAt s.r 0, intAt s.r 1]) (s := []) (x := []) (own_turns HO4.out ht (hn _ (by decide))) (World.ownsRow_nil _ _ _ _) (World.ownsRow_nil _ _ _ _)
end Go.Proofs.YtnmcjgkeionjkaaGreat
