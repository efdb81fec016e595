/- EEfI, CRun, CCo -/
import Derived.Test.YtbljfphdghfkfaaGreatDoorSequencesCardG16
/- The program's effectOf: a part's turn over one event. -/
namespace Go.Proofs.YtbljfphdghfkfaaGreatDoor
open Go.RowKit
structure Fit (m : Md) (c0 c1 c2 c3 : Int) (s : St) (e : Ev) : Prop where
 ok : m.ok = true
 st : s.ok = true
 ev : e.ok = true
 d : e.d < m.n
 k : e.k < (m.h.length : Int)
 vc : ∀ a : Int, -1 ≤ vecAt c0 c1 c2 c3 a ∧ vecAt c0 c1 c2 c3 a ≤ 1
theorem ok_row {m : Md} (h : m.ok = true) {j : Nat} (hj : j < m.h.length) : (hAt m.h j).length ≤ 8 ∧ ∀ i, i < (hAt m.h j).length → (oAt (hAt m.h j) i).ok m.n m.h.length = true := by
 simp only [Md.ok, Bool.and_eq_true] at h
 have h1 := h.1.2
 unfold Md.okH at h1
 rw [List.all_eq_true] at h1
 have h2 := h1 j (by simpa using hj)
 unfold rowB at h2
 simp only [Bool.and_eq_true, decide_eq_true_eq] at h2
 refine ⟨h2.1, fun i hi => ?_⟩
 have h3 := h2.2
 rw [List.all_eq_true] at h3
 exact h3 i (by simpa using hi)
theorem ok_seed {m : Md} (h : m.ok = true) : 0 ≤ m.s ∧ m.s ≤ 65535 ∧ 1 ≤ m.n ∧ m.n ≤ 4 ∧ m.h.length ≤ 4 ∧ 0 ≤ m.z ∧ m.z ≤ 950 := by
 simp only [Md.ok, Bool.and_eq_true, decide_eq_true_eq] at h
 have := h.1.1.1
 unfold Md.hd at this
 omega
theorem ev_nums {e : Ev} (h : e.ok = true) : 0 ≤ e.t ∧ e.t ≤ 1000 ∧ 0 ≤ e.d ∧ e.d ≤ 3 ∧ 0 ≤ e.k ∧ e.k ≤ 3 ∧ 0 ≤ e.v ∧ e.v ≤ 999 := by
 have h' : okB e.t e.s e.q e.d e.k e.v e.g = true := h
 simp [okB] at h'
 omega
theorem st_good {s : St} (h : s.ok = true) : s.r.length = 2 ∧ GoodT (startT s) 0 := by
 simp only [St.ok, decide_eq_true_eq] at h
 exact ⟨h.1, ⟨h.2.1.1, h.2.1.2, h.2.2.1.1, h.2.2.1.2, h.2.2.2.1, by have := h.2.2.2.2.1; show s.q ≤ _; omega, h.2.2.2.2.2.1, by have := h.2.2.2.2.2.2; show s.d ≤ _; omega, by simp [startT], by simp [startT]⟩⟩
theorem efR_turns {w w' : World} {B P R : Nat} {pre : List Value} {T : TypeId} {t : Tn} {k : Int} {g cap : Nat} {us ux : Value} {vs : Array Value} (h : Eff B w P T pre t k g cap us ux) (hR : Bk w R 154 vs) (ht : Turns (fun k => k = R) w w') :
  EfF (fun j => B ≤ j ∧ j < w'.heap.size) w' (.agg #[vReg g cap, .int .i64 t.q, .int .i64 t.d, us, ux, .int .i64 (-1)]) t.ef := by
 have hn : ∀ (T' : TypeId), T' ≠ 154 → ∀ k cur, w.heap[k]? = some (.cells cur T') → ¬ k = R := fun T' hT k cur e1 e2 => by
  have e3 : w.heap[R]? = some (.cells vs 154) := hR
  rw [e2, e3] at e1
  cases e1
  exact hT rfl
 exact ef_of (r := [t.a, t.b]) (own_turns h.r ht (hn _ (by decide))) (own_turns h.s ht (hn _ (by decide))) (own_turns h.x ht (hn _ (by decide)))
set_option maxRecDepth 100000 in
set_option maxHeartbeats 16000000 in
theorem iEff (x y : Value) (m : Md) (c0 c1 c2 c3 : Int) (s : St) (e : Ev) (w : World) (hm : IsM w x m) (hs : IsS w y s) (hf : Fit m c0 c1 c2 c3 s e) :
  Calls Tryz.prog 86 #[x, vec c0 c1 c2 c3, y, .agg #[.int .i64 e.t, .int .i64 e.s, .int .i64 e.q, .int .i64 e.d, .int .i64 e.k, .int .i64 e.v, .int .i64 e.g]] w fun r w' => ∃ u, r = .returned u ∧ Below w.heap.size w w' ∧ EfF (fun k => w.heap.size ≤ k ∧ k < w'.heap.size) w' u (effR m [c0, c1, c2, c3] s e) := by
 obtain ⟨h2, hgt⟩ := st_good hf.st
 obtain ⟨hs0, hs1, hn0, hn1, hh4, _, _⟩ := ok_seed hf.ok
 obtain ⟨ht0, ht1, hd0, hd1, hk0, hk3, hv0, hv1⟩ := ev_nums hf.ev
 obtain ⟨kk, hkk⟩ : ∃ kk : Nat, e.k = (kk : Int) := ⟨e.k.toNat, by omega⟩
 have hkl : kk < m.h.length := by have := hf.k; omega
 obtain ⟨hr8, hrok⟩ := ok_row hf.ok hkl
 have HSS : Hid (IsS w y s) := hs
 obtain ⟨vi, vh, vs, rfl, ⟨ai, ci, rfl, _⟩, ⟨ah, ch, rfl, hh1, hh2, hh3⟩, ⟨ae, ce, rfl, _⟩⟩ := hm
 obtain ⟨bh, offh, rfl, hbh, hch⟩ := hh3.resolve_left (by intro e; rw [e] at hkl; simp at hkl)
 obtain ⟨uh, f0, ⟨a1, cu, rfl, _, _, hu⟩⟩ := hch kk hkl
 obtain ⟨b2, off2, cap2, rfl, hb2, q0, q1⟩ := hs.two h2
 have HRUN : Hid (effR m [c0, c1, c2, c3] s e = resE s (run m.s [c0, c1, c2, c3] e (hAt m.h kk) (hAt m.h kk).length 0 (startT s))) := by unfold effR; rw [hkk]; rfl
 have HVC : Hid (∀ a : Int, -1 ≤ vecAt c0 c1 c2 c3 a ∧ vecAt c0 c1 c2 c3 a ≤ 1) := hf.vc
 generalize effR m [c0, c1, c2, c3] s e = EF at HRUN ⊢
 have HU : Hid (hAt m.h kk = [] ∨ ∃ b off, a1 = some ⟨b, off, none⟩ ∧ OsAt w b off (hAt m.h kk)) := hu
 have HOK : Hid (∀ i, i < (hAt m.h kk).length → (oAt (hAt m.h kk) i).ok m.n m.h.length = true) := hrok
 have HGT : Hid (GoodT (startT s) 0) := hgt
 have hkh : (kk : Int) < (m.h.length : Int) := by omega
 have HKK : Hid (e.k = (kk : Int)) := hkk
 have HF0 : Hid (w.cell? ⟨bh, offh + kk, none⟩ = some (.slice a1 (hAt m.h kk).length cu)) := f0
 clear hu hrok hgt hf hs hh1 hh2 hh3 hch q0 q1 hkk f0
 obtain ⟨W0, hW0⟩ : ∃ W0, ((((((w).alloc (.cells #[.int .i64 m.n, .int .i64 m.s, .slice ai m.i.length ci, .slice (some ⟨bh, offh, none⟩) m.h.length ch, .slice ae m.e.length ce, .int .i64 m.z] 27)).alloc (.cells #[i64 c0, i64 c1, i64 c2, i64 c3] 90)).alloc (.cells #[.slice (some ⟨b2, off2, none⟩) 2 cap2, .int .i64 s.q, .int .i64 s.d] 96)).alloc (.cells #[.int .i64 e.t, .int .i64 e.s, .int .i64 e.q, .int .i64 e.d, .int .i64 e.k, .int .i64 e.v, .int .i64 e.g] 53)).alloc (.cells #[.slice none 0 0, .int .i64 0, .int .i64 0, .slice none 0 0, .slice none 0 0, .int .i64 0] 154)).alloc (.cells #[.int .i64 m.n, .int .i64 m.s, .slice ai m.i.length ci, .slice (some ⟨bh, offh, none⟩) m.h.length ch, .slice ae m.e.length ce, .int .i64 m.z, i64 c0, i64 c1, i64 c2, i64 c3, .int .i64 e.t, .int .i64 e.s, .int .i64 e.q, .int .i64 e.d, .int .i64 e.k, .int .i64 e.v, .int .i64 e.g, .slice none 0 0, .int .i64 0, .int .i64 0, .slice none 0 0, .slice none 0 0, .int .i64 0] 175) = W0 := ⟨_, rfl⟩
 have HM0 : Hid (Bk W0 w.heap.size 27 #[.int .i64 m.n, .int .i64 m.s, .slice ai m.i.length ci, .slice (some ⟨bh, offh, none⟩) m.h.length ch, .slice ae m.e.length ce, .int .i64 m.z]) := by rw [← hW0]; exact (((((Bk.new w _ _).alloc _).alloc _).alloc _).alloc _).alloc _
 have HS0 : Hid (Bk W0 (w.heap.size + 1 + 1) 96 #[.slice (some ⟨b2, off2, none⟩) 2 cap2, .int .i64 s.q, .int .i64 s.d]) := by rw [← hW0]; exact (((Bk.newAt (by simp) _ _).alloc _).alloc _).alloc _
 have HV0 : Hid (Bk W0 (w.heap.size + 1 + 1 + 1) 53 #[.int .i64 e.t, .int .i64 e.s, .int .i64 e.q, .int .i64 e.d, .int .i64 e.k, .int .i64 e.v, .int .i64 e.g]) := by rw [← hW0]; exact ((Bk.newAt (by simp) _ _).alloc _).alloc _
 have HR0 : Hid (Bk W0 (w.heap.size + 1 + 1 + 1 + 1) 154 #[.slice none 0 0, .int .i64 0, .int .i64 0, .slice none 0 0, .slice none 0 0, .int .i64 0]) := by rw [← hW0]; exact (Bk.newAt (by simp) _ _).alloc _
 have HP0 : Hid (Bk W0 (w.heap.size + 1 + 1 + 1 + 1 + 1) 175 ((preT m.n m.s m.z (.slice ai m.i.length ci) (.slice (some ⟨bh, offh, none⟩) m.h.length ch) (.slice ae m.e.length ce) c0 c1 c2 c3 e) ++ [.slice none 0 0, .int .i64 0, .int .i64 0, .slice none 0 0, .slice none 0 0, .int .i64 0] : List Value).toArray) := by rw [← hW0]; exact Bk.newAt (by simp) _ _
 have HB0 : Hid (Below w.heap.size w W0) := by rw [← hW0]; exact ((((((Below.refl _ w).alloc (Nat.le_refl _) _).alloc (by first | (simp; done) | (simp; omega)) _).alloc (by first | (simp; done) | (simp; omega)) _).alloc (by first | (simp; done) | (simp; omega)) _).alloc (by first | (simp; done) | (simp; omega)) _).alloc (by first | (simp; done) | (simp; omega)) _
 have hPl := HP0.out.lt
 have k0 := HS0.out.cell (i := 0) rfl
 have k1 := HS0.out.cell (i := 1) rfl
 have k2 := HS0.out.cell (i := 2) rfl
 go_enter Tryz.func86, Tryz.ntmps86
 go_wp2_with fail
 clear hW0 k0 k1 k2
 refine (iCopy _ s _ (HSS.out.below HB0.out) h2).mono ?_
 rintro r w1 ⟨g, c, rfl, hown, hb1⟩
 have hz1 := HB0.out.size
 have hz2 := hb1.size
 have HB1 : Hid (Below w.heap.size w w1) := HB0.out.trans (hb1.mono hz1)
 have HP1 := HP0.out.below hb1
 have hown' := own_mono hown hz1
 obtain ⟨X1, hX1⟩ : ∃ X1, put6o w1 (w.heap.size + 1 + 1 + 1 + 1 + 1) 17 (vReg g c) (.int .i64 s.q) (.int .i64 s.d) (.slice none 0 0) (.slice none 0 0) (.int .i64 (-1)) = X1 := ⟨_, rfl⟩
 have hT1 : Turns (fun k => k = (w.heap.size + 1 + 1 + 1 + 1 + 1)) w1 X1 := by rw [← hX1]; exact put6o_turns _ _ _ _ _ _ _ _ _
 have HP2 : Bk X1 (w.heap.size + 1 + 1 + 1 + 1 + 1) 175 ((preT m.n m.s m.z (.slice ai m.i.length ci) (.slice (some ⟨bh, offh, none⟩) m.h.length ch) (.slice ae m.e.length ce) c0 c1 c2 c3 e) ++ [vReg g c, .int .i64 s.q, .int .i64 s.d, .slice none 0 0, .slice none 0 0, .int .i64 (-1)] : List Value).toArray := by rw [← hX1]; exact HP1.put6o _ _ _ _ _ _
 have HE1 : Hid (Eff w.heap.size X1 (w.heap.size + 1 + 1 + 1 + 1 + 1) 175 (preT m.n m.s m.z (.slice ai m.i.length ci) (.slice (some ⟨bh, offh, none⟩) m.h.length ch) (.slice ae m.e.length ce) c0 c1 c2 c3 e) (startT s) (-1) g c (.slice none 0 0) (.slice none 0 0)) :=
  ⟨by omega, by decide, HP2, own_turns hown' hT1 (fun k cur e1 e2 => by
   have e3 : w1.heap[(w.heap.size + 1 + 1 + 1 + 1 + 1)]? = _ := HP1
   rw [show k = (w.heap.size + 1 + 1 + 1 + 1 + 1) from e2, e3] at e1
   cases e1), World.ownsRow_nil _ _ _ _, World.ownsRow_nil _ _ _ _⟩
 have HM1 : Hid (Bk X1 w.heap.size 27 #[.int .i64 m.n, .int .i64 m.s, .slice ai m.i.length ci, .slice (some ⟨bh, offh, none⟩) m.h.length ch, .slice ae m.e.length ce, .int .i64 m.z]) := (HM0.out.below hb1).turns hT1 (fun e => by omega)
 have HV1 : Hid (Bk X1 (w.heap.size + 1 + 1 + 1) 53 #[.int .i64 e.t, .int .i64 e.s, .int .i64 e.q, .int .i64 e.d, .int .i64 e.k, .int .i64 e.v, .int .i64 e.g]) := (HV0.out.below hb1).turns hT1 (fun e => by omega)
 have HS1 : Hid (Bk X1 (w.heap.size + 1 + 1) 96 #[.slice (some ⟨b2, off2, none⟩) 2 cap2, .int .i64 s.q, .int .i64 s.d]) := (HS0.out.below hb1).turns hT1 (fun e => by omega)
 have HR1 : Hid (Bk X1 (w.heap.size + 1 + 1 + 1 + 1) 154 #[.slice none 0 0, .int .i64 0, .int .i64 0, .slice none 0 0, .slice none 0 0, .int .i64 0]) := (HR0.out.below hb1).turns hT1 (fun e => by omega)
 have HB2 : Hid (Below w.heap.size w X1) := HB1.out.trans (hT1.to_below (fun k e => by omega) HB1.out.size)
 have hX1s := hT1.size
 have a17 : w1.cell? ⟨(w.heap.size + 1 + 1 + 1 + 1 + 1), 17, none⟩ = some (.slice none 0 0) := HP1.cell (i := 17) rfl
 have a18 : w1.cell? ⟨(w.heap.size + 1 + 1 + 1 + 1 + 1), 18, none⟩ = some (.int .i64 0) := HP1.cell (i := 18) rfl
 have a19 : w1.cell? ⟨(w.heap.size + 1 + 1 + 1 + 1 + 1), 19, none⟩ = some (.int .i64 0) := HP1.cell (i := 19) rfl
 have a20 : w1.cell? ⟨(w.heap.size + 1 + 1 + 1 + 1 + 1), 20, none⟩ = some (.slice none 0 0) := HP1.cell (i := 20) rfl
 have a21 : w1.cell? ⟨(w.heap.size + 1 + 1 + 1 + 1 + 1), 21, none⟩ = some (.slice none 0 0) := HP1.cell (i := 21) rfl
 have a22 : w1.cell? ⟨(w.heap.size + 1 + 1 + 1 + 1 + 1), 22, none⟩ = some (.int .i64 0) := HP1.cell (i := 22) rfl
 have af := HP1.free
 have p3 : X1.cell? ⟨w.heap.size, 3, none⟩ = some (.slice (some ⟨bh, offh, none⟩) m.h.length ch) := HM1.out.cell (i := 3) rfl
 have v4 : X1.cell? ⟨w.heap.size + 1 + 1 + 1, 4, none⟩ = some (.int .i64 (kk : Int)) := by rw [← HKK.out]; exact HV1.out.cell (i := 4) rfl
 have f1 : X1.cell? ⟨bh, offh + kk, none⟩ = some (.slice a1 (hAt m.h kk).length cu) := (HB2.out.cell (p := ⟨bh, offh + kk, none⟩) hbh).trans HF0.out
 clear hown hb1 HP1 HP2 hown' hT1 HM0 HV0 HS0 HR0 HP0
 go_wp2_with fail
 clear a17 a18 a19 a20 a21 a22 af p3 v4 f1 hX1
 refine (do_any w.heap.size (w.heap.size + 1 + 1 + 1 + 1 + 1) m.n m.s m.z _ _ _ c0 c1 c2 c3 e (startT s) g c _ _ (hAt m.h kk) _ m.n m.h.length X1 hs0 hs1 hd0 hd1 hv0 hv1 ht0 ht1 HVC.out hr8 HOK.out HGT.out ⟨a1, cu, rfl, HU.out.imp id (fun ⟨b, off, e1, h1⟩ => ⟨b, off, e1, h1.1, h1.below HB2.out h1.1⟩)⟩ HE1.out).mono ?_
 rintro r w2 ⟨rfl, hB3, hK3, t', k', g', cap', us', ux', hE3, hg3, hres⟩
 have hs3 := hB3.size
 have HB3 : Hid (Below w.heap.size w w2) := HB2.out.trans hB3
 have HR3 : Hid (Bk w2 (w.heap.size + 1 + 1 + 1 + 1) 154 #[.slice none 0 0, .int .i64 0, .int .i64 0, .slice none 0 0, .slice none 0 0, .int .i64 0]) := hK3 _ _ _ (by decide) HR1.out
 have HS3 : Hid (Bk w2 (w.heap.size + 1 + 1) 96 #[.slice (some ⟨b2, off2, none⟩) 2 cap2, .int .i64 s.q, .int .i64 s.d]) := hK3 _ _ _ (by decide) HS1.out
 have HE3 : Hid (Eff w.heap.size w2 (w.heap.size + 1 + 1 + 1 + 1 + 1) 175 (preT m.n m.s m.z (.slice ai m.i.length ci) (.slice (some ⟨bh, offh, none⟩) m.h.length ch) (.slice ae m.e.length ce) c0 c1 c2 c3 e) t' k' g' cap' us' ux') := hE3
 have HSS3 : Hid (IsS w2 (.agg #[.slice (some ⟨b2, off2, none⟩) 2 cap2, .int .i64 s.q, .int .i64 s.d]) s) := HSS.out.below HB3.out
 have HRES : Hid ((run m.s [c0, c1, c2, c3] e (hAt m.h kk) (hAt m.h kk).length 0 (startT s) = .done t' ∧ k' = -1) ∨ (run m.s [c0, c1, c2, c3] e (hAt m.h kk) (hAt m.h kk).length 0 (startT s) = .asks k' ∧ 0 ≤ k' ∧ k' ≤ 3)) := hres
 have q22 : w2.cell? ⟨(w.heap.size + 1 + 1 + 1 + 1 + 1), 22, none⟩ = some (.int .i64 k') := HE3.out.blk.cell (i := 22) rfl
 obtain ⟨us1, us2, hus⟩ := own_slice HE3.out.s
 obtain ⟨ux1, ux2, hux⟩ := own_slice HE3.out.x
 subst hus hux
 clear hB3 hK3 hE3 hg3 hres HE1 HB2 HM1 HV1 HS1 HR1 HB1 HB0 HSS HU HOK HGT HVC
 by_cases hk : k' = -1
 ·obtain ⟨hrun, _⟩ := HRES.out.resolve_right (fun h => by omega)
  have HEF : Hid (EF = t'.ef) := HRUN.out.trans (by rw [hrun]; rfl)
  subst hk
  have q17 : w2.cell? ⟨(w.heap.size + 1 + 1 + 1 + 1 + 1), 17, none⟩ = some (vReg g' cap') := HE3.out.blk.cell (i := 17) rfl
  have q18 : w2.cell? ⟨(w.heap.size + 1 + 1 + 1 + 1 + 1), 18, none⟩ = some (.int .i64 t'.q) := HE3.out.blk.cell (i := 18) rfl
  have q19 : w2.cell? ⟨(w.heap.size + 1 + 1 + 1 + 1 + 1), 19, none⟩ = some (.int .i64 t'.d) := HE3.out.blk.cell (i := 19) rfl
  have q20 : w2.cell? ⟨(w.heap.size + 1 + 1 + 1 + 1 + 1), 20, none⟩ = some (.slice us1 t'.s.length us2) := HE3.out.blk.cell (i := 20) rfl
  have q21 : w2.cell? ⟨(w.heap.size + 1 + 1 + 1 + 1 + 1), 21, none⟩ = some (.slice ux1 t'.x.length ux2) := HE3.out.blk.cell (i := 21) rfl
  have r0 := HR3.out.cell (i := 0) rfl
  have r1 := HR3.out.cell (i := 1) rfl
  have r2 := HR3.out.cell (i := 2) rfl
  have r3 := HR3.out.cell (i := 3) rfl
  have r4 := HR3.out.cell (i := 4) rfl
  have r5 := HR3.out.cell (i := 5) rfl
  have rf := HR3.out.free
  clear hrun
  go_wp2
  clear r0 r1 r2 r3 r4 r5 rf q17 q18 q19 q20 q21 q22
  obtain ⟨X5, hX5⟩ : ∃ X5, put6 w2 (w.heap.size + 1 + 1 + 1 + 1) (vReg g' cap') (.int .i64 t'.q) (.int .i64 t'.d) (.slice us1 t'.s.length us2) (.slice ux1 t'.x.length ux2) (.int .i64 (-1)) = X5 := ⟨_, rfl⟩
  have hR := HR3.out.put6 (vReg g' cap') (.int .i64 t'.q) (.int .i64 t'.d) (.slice us1 t'.s.length us2) (.slice ux1 t'.x.length ux2) (.int .i64 (-1))
  have ht := put6_turns w2 (w.heap.size + 1 + 1 + 1 + 1) (vReg g' cap') (.int .i64 t'.q) (.int .i64 t'.d) (.slice us1 t'.s.length us2) (.slice ux1 t'.x.length ux2) (.int .i64 (-1))
  rw [hX5] at hR ht
  unfold put6 at hX5
  rw [hX5]
  have t0 := hR.cell (i := 0) rfl
  have t1 := hR.cell (i := 1) rfl
  have t2 := hR.cell (i := 2) rfl
  have t3 := hR.cell (i := 3) rfl
  have t4 := hR.cell (i := 4) rfl
  have t5 := hR.cell (i := 5) rfl
  have hs5 := ht.size
  refine bodyPost_ret (v := .agg #[vReg g' cap', .int .i64 t'.q, .int .i64 t'.d, .slice us1 t'.s.length us2, .slice ux1 t'.x.length ux2, .int .i64 (-1)]) (by simp [results, Tryz.results86, go_sem, t0, t1, t2, t3, t4, t5]) rfl ⟨_, rfl, HB3.out.trans (ht.to_below (fun k e => by omega) HB3.out.size), ?_⟩
  rw [HEF.out]
  exact efR_turns HE3.out HR3.out ht
 ·obtain ⟨hrun, hk0, hk3⟩ := HRES.out.resolve_left (fun h => hk h.2)
  have HEF : Hid (EF = resE s (.asks k')) := HRUN.out.trans (by rw [hrun])
  clear hrun
  have HQ0 : Hid (w2.drew.cell? ⟨w.heap.size + 1 + 1, 0, none⟩ = some (.slice (some ⟨b2, off2, none⟩) 2 cap2) ∧ w2.drew.cell? ⟨w.heap.size + 1 + 1, 1, none⟩ = some (.int .i64 s.q) ∧ w2.drew.cell? ⟨w.heap.size + 1 + 1, 2, none⟩ = some (.int .i64 s.d) ∧ w2.drew.cell? ⟨(w.heap.size + 1 + 1 + 1 + 1 + 1), 22, none⟩ = some (.int .i64 k')) := ⟨(HS3.out.drew).cell (i := 0) rfl, (HS3.out.drew).cell (i := 1) rfl, (HS3.out.drew).cell (i := 2) rfl, (HE3.out.drew.blk).cell (i := 22) rfl⟩
  go_wp2
  clear q22
  go_region_held3 (fun W => W.cell? ⟨w.heap.size + 1 + 1, 0, none⟩ = some (.slice (some ⟨b2, off2, none⟩) 2 cap2) ∧ W.cell? ⟨w.heap.size + 1 + 1, 1, none⟩ = some (.int .i64 s.q) ∧ W.cell? ⟨w.heap.size + 1 + 1, 2, none⟩ = some (.int .i64 s.d) ∧ W.cell? ⟨(w.heap.size + 1 + 1 + 1 + 1 + 1), 22, none⟩ = some (.int .i64 k')) (first | with_reducible exact HQ0.out | with_reducible exact HQ1.out | with_reducible exact HQ2.out)
   (first | (go_at_call 98; refine (iCopy _ s _ (HSS3.out.below ((Below.refl _ w2).drew)) h2).mono ?_; rintro r w4 ⟨gc, cc, rfl, hown, hb4⟩; have hb5 : Below w2.heap.size w2 w4 := (Below.refl _ w2).drew.trans hb4; have HB4 : Hid (Below w.heap.size w w4) := HB3.out.trans (hb5.mono HB3.out.size); have hS4 := HS3.out.below hb5; have hP4 := HE3.out.blk.below hb5; have hR4 := HR3.out.below hb5; have HQ1 : Hid (w4.cell? ⟨w.heap.size + 1 + 1, 0, none⟩ = some (.slice (some ⟨b2, off2, none⟩) 2 cap2) ∧ w4.cell? ⟨w.heap.size + 1 + 1, 1, none⟩ = some (.int .i64 s.q) ∧ w4.cell? ⟨w.heap.size + 1 + 1, 2, none⟩ = some (.int .i64 s.d) ∧ w4.cell? ⟨(w.heap.size + 1 + 1 + 1 + 1 + 1), 22, none⟩ = some (.int .i64 k')) := ⟨(hS4).cell (i := 0) rfl, (hS4).cell (i := 1) rfl, (hS4).cell (i := 2) rfl, (hP4).cell (i := 22) rfl⟩; have htt := put6_turns w4 (w.heap.size + 1 + 1 + 1 + 1) (vReg gc cc) (.int .i64 s.q) (.int .i64 s.d) (.slice none 0 0) (.slice none 0 0) (.int .i64 k'); have HQ2 : Hid ((put6 w4 (w.heap.size + 1 + 1 + 1 + 1) (vReg gc cc) (.int .i64 s.q) (.int .i64 s.d) (.slice none 0 0) (.slice none 0 0) (.int .i64 k')).cell? ⟨w.heap.size + 1 + 1, 0, none⟩ = some (.slice (some ⟨b2, off2, none⟩) 2 cap2) ∧ (put6 w4 (w.heap.size + 1 + 1 + 1 + 1) (vReg gc cc) (.int .i64 s.q) (.int .i64 s.d) (.slice none 0 0) (.slice none 0 0) (.int .i64 k')).cell? ⟨w.heap.size + 1 + 1, 1, none⟩ = some (.int .i64 s.q) ∧ (put6 w4 (w.heap.size + 1 + 1 + 1 + 1) (vReg gc cc) (.int .i64 s.q) (.int .i64 s.d) (.slice none 0 0) (.slice none 0 0) (.int .i64 k')).cell? ⟨w.heap.size + 1 + 1, 2, none⟩ = some (.int .i64 s.d) ∧ (put6 w4 (w.heap.size + 1 + 1 + 1 + 1) (vReg gc cc) (.int .i64 s.q) (.int .i64 s.d) (.slice none 0 0) (.slice none 0 0) (.int .i64 k')).cell? ⟨(w.heap.size + 1 + 1 + 1 + 1 + 1), 22, none⟩ = some (.int .i64 k')) := ⟨(hS4.turns htt (fun e => by omega)).cell (i := 0) rfl, (hS4.turns htt (fun e => by omega)).cell (i := 1) rfl, (hS4.turns htt (fun e => by omega)).cell (i := 2) rfl, (hP4.turns htt (fun e => by omega)).cell (i := 22) rfl⟩; have HR4 : Hid (Bk w4 (w.heap.size + 1 + 1 + 1 + 1) 154 #[.slice none 0 0, .int .i64 0, .int .i64 0, .slice none 0 0, .slice none 0 0, .int .i64 0]) := hR4; have HO4 : Hid (w4.ownsRow w.heap.size 3 1 (vReg gc cc) 2 [.int .i64 (intAt s.r 0), .int .i64 (intAt s.r 1)]) := own_mono hown HB3.out.size; have r0 := hR4.cell (i := 0) rfl; have r1 := hR4.cell (i := 1) rfl; have r2 := hR4.cell (i := 2) rfl; have r3 := hR4.cell (i := 3) rfl; have r4 := hR4.cell (i := 4) rfl; have r5 := hR4.cell (i := 5) rfl; have rf := hR4.free; clear hown hb4 hb5 hS4 hP4 hR4 htt))
  clear r0 r1 r2 r3 r4 r5 rf HQ0 HQ1 HQ2
  obtain ⟨X5, hX5⟩ : ∃ X5, put6 w4 (w.heap.size + 1 + 1 + 1 + 1) (vReg gc cc) (.int .i64 s.q) (.int .i64 s.d) (.slice none 0 0) (.slice none 0 0) (.int .i64 k') = X5 := ⟨_, rfl⟩
  have hR := HR4.out.put6 (vReg gc cc) (.int .i64 s.q) (.int .i64 s.d) (.slice none 0 0) (.slice none 0 0) (.int .i64 k')
  have ht := put6_turns w4 (w.heap.size + 1 + 1 + 1 + 1) (vReg gc cc) (.int .i64 s.q) (.int .i64 s.d) (.slice none 0 0) (.slice none 0 0) (.int .i64 k')
  rw [hX5] at hR ht
  unfold put6 at hX5
  rw [hX5]
  have t0 := hR.cell (i := 0) rfl
  have t1 := hR.cell (i := 1) rfl
  have t2 := hR.cell (i := 2) rfl
  have t3 := hR.cell (i := 3) rfl
  have t4 := hR.cell (i := 4) rfl
  have t5 := hR.cell (i := 5) rfl
  have hs5 := ht.size
  go_wp2
  refine bodyPost_ret (v := .agg #[vReg gc cc, .int .i64 s.q, .int .i64 s.d, .slice none 0 0, .slice none 0 0, .int .i64 k']) (by simp [results, Tryz.results86, go_sem, t0, t1, t2, t3, t4, t5]) rfl ⟨_, rfl, HB4.out.trans (ht.to_below (fun k e => by omega) HB4.out.size), ?_⟩
  rw [HEF.out]
  have hn : ∀ (T' : TypeId), T' ≠ 154 → ∀ k cur, w4.heap[k]? = some (.cells cur T') → ¬ k = (w.heap.size + 1 + 1 + 1 + 1) := fun T' hT k cur e1 e2 => by
   have e3 : w4.heap[(w.heap.size + 1 + 1 + 1 + 1)]? = some (.cells #[.slice none 0 0, .int .i64 0, .int .i64 0, .slice none 0 0, .slice none 0 0, .int .i64 0] 154) := HR4.out
   rw [e2, e3] at e1
   cases e1
   exact hT rfl
  exact ef_of (r := [intAt s.r 0, intAt s.r 1]) (s := []) (x := []) (own_turns HO4.out ht (hn _ (by decide))) (World.ownsRow_nil _ _ _ _) (World.ownsRow_nil _ _ _ _)
end Go.Proofs.YtbljfphdghfkfaaGreatDoor

/- What a part at work has sent, told and drawn, as plain values. -/
namespace Go.Proofs.YtbljfphdghfkfaaGreatDoor
open Go.RowKit
structure Sent (m : Md) (e : Ev) (q : Int) (x : Ev) : Prop where
 s : x.s = e.d
 q : x.q = q
 g : x.g = 0
 d0 : 0 ≤ x.d
 d1 : x.d < m.n
 k0 : 0 ≤ x.k
 k1 : x.k < (m.h.length : Int)
 v0 : 0 ≤ x.v
 v1 : x.v ≤ 999
 t0 : e.t + 1 ≤ x.t
 t1 : x.t ≤ e.t + 50
structure Went (m : Md) (e : Ev) (q0 d0 : Int) (t : Tn) (c : Nat) : Prop where
 a0 : 0 ≤ t.a
 a1 : t.a ≤ 999
 b0 : 0 ≤ t.b
 b1 : t.b ≤ 999
 q : t.q = q0 + (t.s.length : Int)
 e0 : d0 ≤ t.d
 e1 : t.d ≤ d0 + c
 s1 : t.s.length ≤ c
 x1 : t.x.length ≤ c
 s : ∀ j, j < t.s.length → Sent m e (q0 + (j : Int)) (evAt t.s j)
theorem Went.more {m : Md} {e : Ev} {q0 d0 : Int} {t : Tn} {c c' : Nat} (h : Went m e q0 d0 t c) (hc : c ≤ c') : Went m e q0 d0 t c' :=
 ⟨h.a0, h.a1, h.b0, h.b1, h.q, h.e0, by have := h.e1; omega, by have := h.s1; omega, by have := h.x1; omega, h.s⟩
theorem Went.put {m : Md} {e : Ev} {q0 d0 : Int} {t : Tn} {c : Nat} (h : Went m e q0 d0 t c) (r z : Int) (h0 : 0 ≤ z) (h1 : z ≤ 999) : Went m e q0 d0 (t.put r z) c := by
 unfold Tn.put
 split
 ·exact ⟨h0, h1, h.b0, h.b1, h.q, h.e0, h.e1, h.s1, h.x1, h.s⟩
 ·exact ⟨h.a0, h.a1, h0, h1, h.q, h.e0, h.e1, h.s1, h.x1, h.s⟩
theorem Went.step {m : Md} {e : Ev} {q0 d0 sd : Int} {v : List Int} {o : O} {t : Tn} {c : Nat} (h : Went m e q0 d0 t c) (ho : o.ok m.n m.h.length = true) (hv : o.c = 4 → 0 ≤ intAt v o.a.toNat ∧ intAt v o.a.toNat ≤ 1) : Went m e q0 d0 (stepO sd v e o t) (c + 1) := by
 have hm := h.more (Nat.le_succ c)
 have hok : okO m.n m.h.length o.c o.a o.b o.k = true := ho
 simp only [okO, decide_eq_true_eq] at hok
 unfold stepO
 split
 ·exact hm.put _ _ (by omega) (by omega)
 ·split
  ·exact hm.put _ _ (by omega) (by omega)
  ·split
   ·rename_i h2
    have hs : 0 ≤ o.a ∧ o.a < m.n ∧ 1 ≤ o.b ∧ o.b ≤ 50 ∧ 0 ≤ o.k ∧ o.k < (m.h.length : Int) := by omega
    refine ⟨h.a0, h.a1, h.b0, h.b1, ?_, hm.e0, hm.e1, by have := h.s1; simp; omega, hm.x1, fun j hj => ?_⟩
    ·have := h.q
     show t.q + 1 = q0 + ((t.s ++ [sentE e o t]).length : Int)
     simp
     omega
    ·have hj' : j < t.s.length + 1 := by simpa using hj
     show Sent m e (q0 + (j : Int)) (evAt (t.s ++ [sentE e o t]) j)
     by_cases hjl : j < t.s.length
     ·rw [evAt_left _ _ _ hjl]; exact h.s j hjl
     ·have hje : j = t.s.length := by omega
      subst hje
      rw [evAt_last]
      exact ⟨rfl, h.q, rfl, hs.1, hs.2.1, hs.2.2.2.2.1, hs.2.2.2.2.2, h.a0, h.a1, by show e.t + 1 ≤ e.t + o.b; omega, by show e.t + o.b ≤ e.t + 50; omega⟩
   ·split
    ·rename_i h6
     have hb : 1 ≤ o.b ∧ o.b ≤ 999 := by omega
     have hp := h.put o.a (randI sd e.d t.d % o.b) (Int.emod_nonneg _ (by omega)) (by have := Int.emod_lt_of_pos (randI sd e.d t.d) (show 0 < o.b by omega); omega)
     exact ⟨hp.a0, hp.a1, hp.b0, hp.b1, hp.q, by have := h.e0; show d0 ≤ t.d + 1; omega, by have := h.e1; show t.d + 1 ≤ d0 + ((c + 1 : Nat) : Int); omega, (hp.more (Nat.le_succ c)).s1, (hp.more (Nat.le_succ c)).x1, hp.s⟩
    ·split
     ·rename_i h4
      have := hv h4
      exact hm.put _ _ this.1 (by omega)
     ·split
      ·exact ⟨h.a0, h.a1, h.b0, h.b1, h.q, hm.e0, hm.e1, hm.s1, by have := h.x1; simp; omega, h.s⟩
      ·exact hm
def Ends (m : Md) (e : Ev) (q0 d0 : Int) (n : Nat) : Res → Prop
 | .asks k => 0 ≤ k ∧ k ≤ 3
 | .done t => Went m e q0 d0 t n
theorem run_ends {m : Md} {e : Ev} {q0 d0 sd : Int} {v : List Int} {l : List O} (hl : ∀ j, j < l.length → (oAt l j).ok m.n m.h.length = true) (hv : ∀ a : Nat, -1 ≤ intAt v a ∧ intAt v a ≤ 1) :
  ∀ (f i c : Nat) (t : Tn), Went m e q0 d0 t c → c ≤ i → c ≤ l.length → Ends m e q0 d0 l.length (run sd v e l f i t)
 | 0, _, _, _, h, _, hc => h.more hc
 | f + 1, i, c, t, h, hi, hc => by
  unfold run
  by_cases h1 : i < l.length
  ·rw [if_pos h1]
   by_cases h2 : waitsO v (oAt l i)
   ·rw [if_pos h2]
    have hok : okO m.n m.h.length (oAt l i).c (oAt l i).a (oAt l i).b (oAt l i).k = true := hl i h1
    simp only [okO, decide_eq_true_eq] at hok
    have := h2.1
    show 0 ≤ (oAt l i).a ∧ (oAt l i).a ≤ 3
    omega
   ·rw [if_neg h2]
    refine run_ends hl hv f _ (c + 1) _ (h.step (hl i h1) fun h4 => ⟨?_, (hv _).2⟩) (by omega) (by omega)
    by_cases hlt : intAt v (oAt l i).a.toNat < 0
    ·exact absurd ⟨h4, hlt⟩ h2
    ·omega
  ·rw [if_neg h1]; exact h.more hc
theorem start_went {m : Md} {e : Ev} {s : St} (hs : s.ok = true) : Went m e s.q s.d (startT s) 0 := by
 simp only [St.ok, decide_eq_true_eq] at hs
 obtain ⟨_, ⟨h1, h2⟩, ⟨h3, h4⟩, _⟩ := hs
 exact ⟨h1, h2, h3, h4, by simp [startT], by show s.d ≤ s.d; omega, by show s.d ≤ s.d + ((0 : Nat) : Int); simp, by simp [startT], by simp [startT], fun j hj => by simp [startT] at hj⟩
theorem vec_int (c0 c1 c2 c3 : Int) (h : ∀ a : Int, -1 ≤ vecAt c0 c1 c2 c3 a ∧ vecAt c0 c1 c2 c3 a ≤ 1) (a : Nat) : -1 ≤ intAt [c0, c1, c2, c3] a ∧ intAt [c0, c1, c2, c3] a ≤ 1 := by
 have h0 := h 0
 have h1 := h 1
 have h2 := h 2
 have h3 := h 3
 simp [vecAt] at h0 h1 h2 h3
 match a with
 | 0 => simpa [intAt] using h0
 | 1 => simpa [intAt] using h1
 | 2 => simpa [intAt] using h2
 | 3 => simpa [intAt] using h3
 | _ + 4 => simp [intAt]
theorem ok_ops {m : Md} (h : m.ok = true) {j : Nat} (hj : j < m.h.length) : (hAt m.h j).length ≤ 8 ∧ ∀ q, q < (hAt m.h j).length → (oAt (hAt m.h j) q).ok m.n m.h.length = true := by
 simp only [Md.ok, Bool.and_eq_true, Md.okH, List.all_eq_true] at h
 have h1 := h.1.2 j (by simpa using hj)
 simp only [rowB, Bool.and_eq_true, decide_eq_true_eq, List.all_eq_true] at h1
 exact ⟨h1.1, fun q hq => h1.2 q (by simpa using hq)⟩
theorem eff_ends {m : Md} {c0 c1 c2 c3 : Int} {s : St} {e : Ev} (hf : Fit m c0 c1 c2 c3 s e) :
  (∃ k, 0 ≤ k ∧ k ≤ 3 ∧ (effR m [c0, c1, c2, c3] s e).k = k) ∨ ∃ t, effR m [c0, c1, c2, c3] s e = t.ef ∧ Went m e s.q s.d t 8 := by
 have hev := hf.ev
 simp only [Ev.ok, okB, decide_eq_true_eq] at hev
 have hk := hf.k
 have hkl : e.k.toNat < m.h.length := by omega
 obtain ⟨h8, hops⟩ := ok_ops hf.ok hkl
 have h := run_ends (sd := m.s) (v := [c0, c1, c2, c3]) hops (vec_int c0 c1 c2 c3 hf.vc) (hAt m.h e.k.toNat).length 0 0 (startT s) (start_went (m := m) (e := e) hf.st) (Nat.le_refl _) (Nat.zero_le _)
 unfold effR
 generalize run m.s [c0, c1, c2, c3] e (hAt m.h e.k.toNat) (hAt m.h e.k.toNat).length 0 (startT s) = R at h ⊢
 cases R with
 | asks k => exact .inl ⟨k, h.1, h.2, rfl⟩
 | done t => exact .inr ⟨t, rfl, Went.more h h8⟩
end Go.Proofs.YtbljfphdghfkfaaGreatDoor

/- Courses as plain values: one event behind the other, what is to do as a heap or in order. -/
namespace Go.Proofs.YtbljfphdghfkfaaGreatDoor
open Go.RowKit
def Ev.bare (e : Ev) : Ev := ⟨e.t, e.s, e.q, e.d, e.k, e.v, 0⟩
def stAt (l : List St) (i : Nat) : St := l.getD i ⟨[], 0, 0⟩
theorem stAt_set (l : List St) (i j : Nat) (s : St) (h : i < l.length) : stAt (l.set i s) j = if i = j then s else stAt l j := by
 unfold stAt
 rw [List.getD_eq_getElem?_getD, List.getD_eq_getElem?_getD, List.getElem?_set]
 by_cases e : i = j
 ·subst e; simp [h]
 ·simp [e]
structure Hi where
 ev : List Ev
 em : List Em
 k : Int
 f : Bool
structure Co where
 td : List Ev
 st : List St
 ev : List Ev
 em : List Em
def posO : List Ev → Ev → Nat
 | [], _ => 0
 | x :: l, e => if x.cmp e < 0 then posO l e + 1 else 0
theorem insAt_posO : ∀ (l : List Ev) (e : Ev), InsAt l e (posO l e)
 | [], e => ⟨Nat.le_refl _, fun j hj => by simp [posO] at hj, fun h => by simp at h⟩
 | x :: l, e => by
  obtain ⟨h1, h2, h3⟩ := insAt_posO l e
  unfold posO
  split
  ·rename_i hx
   refine ⟨by simp; omega, fun j hj => ?_, fun h => ?_⟩
   ·cases j with
    | zero => rw [evAt_head]; exact hx
    | succ j => rw [evAt_cons]; exact h2 j (by omega)
   ·rw [evAt_cons]; exact h3 (by simpa using h)
  ·rename_i hx
   exact ⟨Nat.zero_le _, fun j hj => by omega, fun _ => by rw [evAt_head]; exact hx⟩
theorem insAt_one {l : List Ev} {e : Ev} {p q : Nat} (h : InsAt l e p) (k : InsAt l e q) : p = q := by
 obtain ⟨h1, h2, h3⟩ := h
 obtain ⟨k1, k2, k3⟩ := k
 by_cases hlt : p < q
 ·exact absurd (k2 p hlt) (h3 (by omega))
 ·by_cases hgt : q < p
  ·exact absurd (h2 q hgt) (k3 (by omega))
  ·omega
def insO (l : List Ev) (e : Ev) : List Ev := insL l (posO l e) e
theorem insO_of {l : List Ev} {e : Ev} {p : Nat} (h : InsAt l e p) : l.take p ++ e :: l.drop p = insO l e := by
 rw [insAt_one h (insAt_posO l e)]; rfl
theorem insO_length (l : List Ev) (e : Ev) : (insO l e).length = l.length + 1 := insL_length (insAt_posO l e).1 e
def planO (z : Int) : List Ev → List Ev → List Ev
 | t, [] => t
 | t, e :: l => planO z (if e.t ≤ z then insO t e else t) l
def planH (z : Int) : List Ev → List Ev → List Ev
 | t, [] => t
 | t, e :: l => planH z (if e.t ≤ z then pushL t e else t) l
theorem planO_snoc (z : Int) : ∀ (l t : List Ev) (e : Ev), planO z t (l ++ [e]) = if e.t ≤ z then insO (planO z t l) e else planO z t l
 | [], t, e => rfl
 | x :: l, t, e => by
  show planO z _ (l ++ [e]) = _
  rw [planO_snoc z l]
  rfl
theorem planH_snoc (z : Int) : ∀ (l t : List Ev) (e : Ev), planH z t (l ++ [e]) = if e.t ≤ z then pushL (planH z t l) e else planH z t l
 | [], t, e => rfl
 | x :: l, t, e => by
  show planH z _ (l ++ [e]) = _
  rw [planH_snoc z l]
  rfl
theorem take_snoc (l : List Ev) (k : Nat) (h : k < l.length) : l.take (k + 1) = l.take k ++ [evAt l k] := by
 rw [List.take_add_one, List.getElem?_eq_getElem h]
 simp [evAt, h]
theorem planO_length (z : Int) : ∀ (l t : List Ev), (planO z t l).length ≤ t.length + l.length
 | [], t => by simp [planO]
 | e :: l, t => by
  have h := planO_length z l (if e.t ≤ z then insO t e else t)
  have h' : (if e.t ≤ z then insO t e else t).length ≤ t.length + 1 := by split <;> simp [insO_length]
  simp only [planO, List.length_cons]
  omega
theorem planH_length (z : Int) : ∀ (l t : List Ev), (planH z t l).length ≤ t.length + l.length
 | [], t => by simp [planH]
 | e :: l, t => by
  have h := planH_length z l (if e.t ≤ z then pushL t e else t)
  have h' : (if e.t ≤ z then pushL t e else t).length ≤ t.length + 1 := by split <;> simp [pushL_length]
  simp only [planH, List.length_cons]
  omega
theorem inL_insO {e x : Ev} {l : List Ev} : InL x (insO l e) ↔ InL x l ∨ x = e := by
 have hp := (insAt_posO l e).1
 unfold insO
 generalize posO l e = p at hp ⊢
 constructor
 ·rintro ⟨j, hj, hje⟩
  rw [insL_length hp] at hj
  rw [insL_at hp] at hje
  by_cases h1 : j < p
  ·rw [if_pos h1] at hje
   exact .inl ⟨j, by omega, hje⟩
  ·rw [if_neg h1] at hje
   by_cases h2 : j = p
   ·rw [if_pos h2] at hje
    exact .inr hje.symm
   ·rw [if_neg h2] at hje
    exact .inl ⟨j - 1, by omega, hje⟩
 ·rintro (⟨j, hj, hje⟩ | rfl)
  ·by_cases h1 : j < p
   ·exact ⟨j, by rw [insL_length hp]; omega, by rw [insL_at hp, if_pos h1, hje]⟩
   ·exact ⟨j + 1, by rw [insL_length hp]; omega, by rw [insL_at hp, if_neg (by omega), if_neg (by omega), ← hje]; rfl⟩
  ·exact ⟨p, by rw [insL_length hp]; omega, by rw [insL_at hp, if_neg (by omega), if_pos rfl]⟩
theorem inL_planO {z : Int} {x : Ev} : ∀ {l t : List Ev}, InL x (planO z t l) → InL x t ∨ (InL x l ∧ x.t ≤ z)
 | [], _, h => .inl h
 | e :: l, t, h => by
  rcases inL_planO (l := l) h with h | h
  ·split at h
   ·rename_i hz
    rcases inL_insO.1 h with h | rfl
    ·exact .inl h
    ·exact .inr ⟨inL_cons.2 (.inl rfl), hz⟩
   ·exact .inl h
  ·exact .inr ⟨inL_cons.2 (.inr h.1), h.2⟩
theorem plan_alike {z d : Int} : ∀ (l : List Ev) (q : Int) (h t : List Ev), Alike h t → (∀ x, InL x t → x.s = d → x.q < q) → (∀ i, i < l.length → (evAt l i).s = d ∧ (evAt l i).q = q + (i : Int)) → Alike (planH z h l) (planO z t l)
 | [], _, _, _, a, _, _ => a
 | e :: l, q, h, t, a, ht, hl => by
  have h0 := hl 0 (by simp)
  rw [evAt_head] at h0
  have hr : ∀ i, i < l.length → (evAt l i).s = d ∧ (evAt l i).q = q + 1 + (i : Int) := fun i hi => by
   have := hl (i + 1) (by simpa using hi)
   rw [evAt_cons] at this
   exact ⟨this.1, by have := this.2; omega⟩
  simp only [planH, planO]
  by_cases hz : e.t ≤ z
  ·rw [if_pos hz, if_pos hz]
   refine plan_alike l (q + 1) _ _ (a.push (insAt_posO t e) fun x hx => ?_) (fun x hx hs => ?_) hr
   ·by_cases hs : x.s = e.s
    ·right
     have := ht x hx (hs.trans h0.1)
     omega
    ·exact .inl hs
   ·rcases inL_insO.1 hx with hx | rfl
    ·have := ht x hx hs; omega
    ·omega
  ·rw [if_neg hz, if_neg hz]
   exact plan_alike l (q + 1) _ _ a (fun x hx hs => by have := ht x hx hs; omega) hr
def effC (m : Md) (v : List Int) (c : Co) : Ef := effR m v (stAt c.st (evAt c.td 0).d.toNat) (evAt c.td 0)
def nextC (pop : List Ev → List Ev) (plan : List Ev → List Ev → List Ev) (m : Md) (v : List Int) (c : Co) : Co :=
 ⟨plan (pop c.td) (effC m v c).s, c.st.set (evAt c.td 0).d.toNat (effC m v c).st, c.ev ++ [evAt c.td 0], c.em ++ (effC m v c).x⟩
def seqG (pop : List Ev → List Ev) (plan : List Ev → List Ev → List Ev) (m : Md) (v : List Int) (z : Int) : Nat → Co → Hi
 | 0, c => ⟨c.ev, c.em, -1, false⟩
 | f + 1, c =>
  if 0 < c.td.length ∧ (evAt c.td 0).t ≤ z then
   if 150 ≤ c.ev.length then ⟨c.ev, c.em, -1, true⟩
   else if 0 ≤ (effC m v c).k then ⟨c.ev, c.em, (effC m v c).k, false⟩
   else seqG pop plan m v z f (nextC pop plan m v c)
  else ⟨c.ev, c.em, -1, false⟩
section
variable {pop : List Ev → List Ev} {plan : List Ev → List Ev → List Ev} {m : Md} {v : List Int} {z : Int} {f : Nat} {c : Co} {R : Hi}
theorem seq_end (h : ¬ (0 < c.td.length ∧ (evAt c.td 0).t ≤ z)) (hR : seqG pop plan m v z f c = R) : R = ⟨c.ev, c.em, -1, false⟩ := by
 cases f with
 | zero => exact hR.symm
 | succ f => rw [seqG, if_neg h] at hR; exact hR.symm
theorem seq_full (hf : 151 ≤ f + c.ev.length) (h : 0 < c.td.length ∧ (evAt c.td 0).t ≤ z) (h150 : c.ev.length = 150) (hR : seqG pop plan m v z f c = R) : R = ⟨c.ev, c.em, -1, true⟩ := by
 cases f with
 | zero => omega
 | succ f => rw [seqG, if_pos h, if_pos (by omega)] at hR; exact hR.symm
theorem seq_asks (hf : 151 ≤ f + c.ev.length) (h : 0 < c.td.length ∧ (evAt c.td 0).t ≤ z) (h150 : c.ev.length < 150) (hk : 0 ≤ (effC m v c).k) (hR : seqG pop plan m v z f c = R) : R = ⟨c.ev, c.em, (effC m v c).k, false⟩ := by
 cases f with
 | zero => omega
 | succ f => rw [seqG, if_pos h, if_neg (by omega), if_pos hk] at hR; exact hR.symm
theorem seq_go (hf : 151 ≤ f + c.ev.length) (h : 0 < c.td.length ∧ (evAt c.td 0).t ≤ z) (h150 : c.ev.length < 150) (hk : ¬ 0 ≤ (effC m v c).k) (hR : seqG pop plan m v z f c = R) :
  ∃ f', 151 ≤ f' + (nextC pop plan m v c).ev.length ∧ seqG pop plan m v z f' (nextC pop plan m v c) = R := by
 cases f with
 | zero => omega
 | succ f =>
  rw [seqG, if_pos h, if_neg (by omega), if_neg hk] at hR
  exact ⟨f, by simp [nextC]; omega, hR⟩
end
structure Due (m : Md) (st : List St) (x : Ev) : Prop where
 ok : x.ok = true
 g : x.g = 0
 d : x.d < m.n
 k : x.k < (m.h.length : Int)
 t : x.t ≤ m.z
 s : x.s = -1 ∨ (0 ≤ x.s ∧ x.s < m.n ∧ x.q < (stAt st x.s.toNat).q)
structure Inv (m : Md) (c : Co) : Prop where
 n : (c.st.length : Int) = m.n
 s : ∀ j, j < c.st.length → (stAt c.st j).ok = true ∧ (stAt c.st j).q ≤ 8 * (c.ev.length : Int) ∧ (stAt c.st j).d ≤ 8 * (c.ev.length : Int)
 e : ∀ x, InL x c.td → Due m c.st x
 tl : c.td.length ≤ 6 + 8 * c.ev.length
 xl : c.em.length ≤ 8 * c.ev.length
 el : c.ev.length ≤ 150
theorem Inv.due {m : Md} {c : Co} (h : Inv m c) (h0 : 0 < c.td.length) : Due m c.st (evAt c.td 0) := h.e _ ⟨0, h0, rfl⟩
theorem ev_d {e : Ev} (h : e.ok = true) : 0 ≤ e.d ∧ 0 ≤ e.k ∧ 0 ≤ e.t := by
 simp only [Ev.ok, okB, decide_eq_true_eq] at h
 omega
theorem Inv.place {m : Md} {c : Co} (h : Inv m c) (h0 : 0 < c.td.length) : (evAt c.td 0).d.toNat < c.st.length := by
 have hd := h.due h0
 have := ev_d hd.ok
 have := hd.d
 have := h.n
 omega
theorem Inv.fit {m : Md} {c : Co} (h : Inv m c) (h0 : 0 < c.td.length) (hm : m.ok = true) {c0 c1 c2 c3 : Int} (hv : ∀ a : Int, -1 ≤ vecAt c0 c1 c2 c3 a ∧ vecAt c0 c1 c2 c3 a ≤ 1) :
  Fit m c0 c1 c2 c3 (stAt c.st (evAt c.td 0).d.toNat) (evAt c.td 0) :=
 ⟨hm, (h.s _ (h.place h0)).1, (h.due h0).ok, (h.due h0).d, (h.due h0).k, hv⟩
end Go.Proofs.YtbljfphdghfkfaaGreatDoor

