/- UIh, UMk -/
import Derived.Test.YtnccenbkpocjgaaGreatExactUnhearG12
import Derived.Test.YtnccenbkpocjgaaGreatExactUnhearG04
import Derived.Test.YtnccenbkpocjgaaGreatExactHearG26
import Derived.Test.YtnccenbkpocjgaaGreatExactUnhearG10
import Derived.Test.YtnccenbkpocjgaaGreatExactUnhearLHIh
/- The program's Unhear. -/
namespace Go.Proofs.YtnccenbkpocjgaaGreat
open Go.RowKit
theorem hidUIh {p : Prop} (h : p) : Hid p := h
set_option maxRecDepth 100000 in
set_option maxHeartbeats 32000000 in
theorem iUnhear (x : Value) (p : Pa) (e : Ev) (w : World) (hw : p.wt ≤ 1048576) (h : IsPart w x p) :
  Calls Tryz.prog 25 #[x, .agg #[.int .i64 e.t, .int .i64 e.s, .int .i64 e.q, .int .i64 e.d, .int .i64 e.k, .int .i64 e.v, .int .i64 e.g]] w fun r w' => AnsH w w' r (unhA p e) (unhB p e) (unhC p e) := by
 have HI : Hid (IsPart w x p) := h
 have HWT : Hid (p.wt ≤ 1048576) := hw
 obtain ⟨u1, u4, u5, u6, rfl, d1, d4, d5, d6⟩ := h
 obtain ⟨W0, hW0⟩ : ∃ W0, ((w.alloc (.cells #[.int .i64 p.n, u1, .int .i64 p.st.q, .int .i64 p.st.d, u4, u5, u6] 33)).alloc (.cells #[.int .i64 e.t, .int .i64 e.s, .int .i64 e.q, .int .i64 e.d, .int .i64 e.k, .int .i64 e.v, .int .i64 e.g] 55)).alloc (.cells #[.int .i64 0, .slice none 0 0, .int .i64 0, .int .i64 0, .slice none 0 0, .slice none 0 0, .slice none 0 0] 33) = W0 := ⟨_, rfl⟩
 have hz0 : W0.heap.size = w.heap.size + 1 + 1 + 1 := by rw [← hW0]; simp
 have hb0 : Below w.heap.size w W0 := hW0 ▸ (((Below.refl _ w).alloc (Nat.le_refl _) _).alloc (by simp) _).alloc (by simp; omega) _
 have HB0 := hidUIh hb0
 have BX : Hid (Bk W0 w.heap.size 33 #[.int .i64 p.n, u1, .int .i64 p.st.q, .int .i64 p.st.d, u4, u5, u6]) := hW0 ▸ ((Bk.new w _ _).alloc _).alloc _
 have BE : Hid (Bk W0 (w.heap.size + 1) 55 #[.int .i64 e.t, .int .i64 e.s, .int .i64 e.q, .int .i64 e.d, .int .i64 e.k, .int .i64 e.v, .int .i64 e.g]) := hW0 ▸ (Bk.newAt (by simp) _ _).alloc _
 have BZ : Hid (Bk W0 (w.heap.size + 1 + 1) 33 #[.int .i64 0, .slice none 0 0, .int .i64 0, .int .i64 0, .slice none 0 0, .slice none 0 0, .slice none 0 0]) := hW0 ▸ Bk.newAt (by simp) _ _
 have hz0' : W0.heap.size ≤ w.heap.size + 1 + 1 + 1 ∧ w.heap.size + 1 + 1 + 1 ≤ W0.heap.size := by omega
 clear hb0 d1 d4 d5 d6 hw hz0
 have x0 := BX.out.cell (i := 0) rfl
 have x1 := BX.out.cell (i := 1) rfl
 have x2 := BX.out.cell (i := 2) rfl
 have x3 := BX.out.cell (i := 3) rfl
 have x4 := BX.out.cell (i := 4) rfl
 have x5 := BX.out.cell (i := 5) rfl
 have x6 := BX.out.cell (i := 6) rfl
 go_enter Tryz.func25, Tryz.ntmps25
 go_wp2_with fail
 clear hW0 x0 x1 x2 x3 x4 x5 x6
 refine (iPartOk_fix _ p p.ok rfl _ HWT.out (HI.out.under HB0.out)).mono ?_
 rintro r w1 ⟨rfl, hb⟩
 have HB1 := hidUIh (HB0.out.trans (hb.mono HB0.out.size))
 have hs1 : W0.heap.size ≤ w1.heap.size := hb.size
 have X1 := hidUIh (BX.out.below hb)
 have E1 := hidUIh (BE.out.below hb)
 have Z1 := hidUIh (BZ.out.below hb)
 clear hb BX BE BZ
 cases hok : p.ok
 case false =>
  have HNO : Hid (¬ unhOk p e = true) := fun h => by have h1 := (unhOk_iff.1 h).1; rw [hok] at h1; cases h1
  have ZN := Z1
  have BN := HB1
  clear hok
  have z0 := ZN.out.cell (i := 0) rfl
  have z1 := ZN.out.cell (i := 1) rfl
  have z2 := ZN.out.cell (i := 2) rfl
  have z3 := ZN.out.cell (i := 3) rfl
  have z4 := ZN.out.cell (i := 4) rfl
  have z5 := ZN.out.cell (i := 5) rfl
  have z6 := ZN.out.cell (i := 6) rfl
  have zf := ZN.out.free
  obtain ⟨X5, hX5⟩ : ∃ X5, put7s w1 (w.heap.size + 1 + 1) (.int .i64 0) (.slice none 0 0) (.int .i64 0) (.int .i64 0) (.slice none 0 0) (.slice none 0 0) (.slice none 0 0) = X5 := ⟨_, rfl⟩
  have hP := ZN.out.put7s (.int .i64 0) (.slice none 0 0) (.int .i64 0) (.int .i64 0) (.slice none 0 0) (.slice none 0 0) (.slice none 0 0)
  have ht := put7s_turns w1 (w.heap.size + 1 + 1) (.int .i64 0) (.slice none 0 0) (.int .i64 0) (.int .i64 0) (.slice none 0 0) (.slice none 0 0) (.slice none 0 0)
  rw [hX5] at hP ht
  unfold put7s at hX5
  have HX5 : Hid _ := hX5
  have HP5 := hidUIh hP
  have HT5 := hidUIh ht
  clear hX5 hP ht
  go_wp2
  try rw [HX5.out]
  have t0 := HP5.out.cell (i := 0) rfl
  have t1 := HP5.out.cell (i := 1) rfl
  have t2 := HP5.out.cell (i := 2) rfl
  have t3 := HP5.out.cell (i := 3) rfl
  have t4 := HP5.out.cell (i := 4) rfl
  have t5 := HP5.out.cell (i := 5) rfl
  have t6 := HP5.out.cell (i := 6) rfl
  refine bodyPost_ret (v := .tuple #[.agg #[.int .i64 0, .slice none 0 0, .int .i64 0, .int .i64 0, .slice none 0 0, .slice none 0 0, .slice none 0 0], .slice none 0 0, .bool false]) (by simp [results, Tryz.results25, go_sem, t0, t1, t2, t3, t4, t5, t6]) rfl ?_
  have hA := unh_not (p := p) (e := e) (HNO.out)
  rw [hA.1, hA.2.1, hA.2.2]
  exact ⟨_, _, rfl, BN.out.trans (HT5.out.to_below (fun b e => by omega) BN.out.size), fun _ => False, fun _ => False, none_partF _ _, nilE _, fun _ h => h.elim, fun _ h => h.elim⟩
 have HOK : Hid (p.ok = true) := hok
 clear hok
 have e0 := E1.out.cell (i := 0) rfl
 have e1 := E1.out.cell (i := 1) rfl
 have e2 := E1.out.cell (i := 2) rfl
 have e3 := E1.out.cell (i := 3) rfl
 have e4 := E1.out.cell (i := 4) rfl
 have e5 := E1.out.cell (i := 5) rfl
 have e6 := E1.out.cell (i := 6) rfl
 go_wp2_with fail
 clear e0 e1 e2 e3 e4 e5 e6
 refine (iOk_ev e e.ok rfl _).mono ?_
 rintro r w2 ⟨rfl, hb⟩
 have HB2 := hidUIh (HB1.out.trans (hb.mono HB1.out.size))
 have hs2 : w1.heap.size ≤ w2.heap.size := hb.size
 have X2 := hidUIh (X1.out.below hb)
 have E2 := hidUIh (E1.out.below hb)
 have Z2 := hidUIh (Z1.out.below hb)
 clear hb X1 E1 Z1
 cases hev : e.ok
 case false =>
  have HNO : Hid (¬ unhOk p e = true) := fun h => by have h1 := (unhOk_iff.1 h).2.1; rw [hev] at h1; cases h1
  have ZN := Z2
  have BN := HB2
  clear hev
  have z0 := ZN.out.cell (i := 0) rfl
  have z1 := ZN.out.cell (i := 1) rfl
  have z2 := ZN.out.cell (i := 2) rfl
  have z3 := ZN.out.cell (i := 3) rfl
  have z4 := ZN.out.cell (i := 4) rfl
  have z5 := ZN.out.cell (i := 5) rfl
  have z6 := ZN.out.cell (i := 6) rfl
  have zf := ZN.out.free
  obtain ⟨X5, hX5⟩ : ∃ X5, put7s w2 (w.heap.size + 1 + 1) (.int .i64 0) (.slice none 0 0) (.int .i64 0) (.int .i64 0) (.slice none 0 0) (.slice none 0 0) (.slice none 0 0) = X5 := ⟨_, rfl⟩
  have hP := ZN.out.put7s (.int .i64 0) (.slice none 0 0) (.int .i64 0) (.int .i64 0) (.slice none 0 0) (.slice none 0 0) (.slice none 0 0)
  have ht := put7s_turns w2 (w.heap.size + 1 + 1) (.int .i64 0) (.slice none 0 0) (.int .i64 0) (.int .i64 0) (.slice none 0 0) (.slice none 0 0) (.slice none 0 0)
  rw [hX5] at hP ht
  unfold put7s at hX5
  have HX5 : Hid _ := hX5
  have HP5 := hidUIh hP
  have HT5 := hidUIh ht
  clear hX5 hP ht
  go_wp2
  try rw [HX5.out]
  have t0 := HP5.out.cell (i := 0) rfl
  have t1 := HP5.out.cell (i := 1) rfl
  have t2 := HP5.out.cell (i := 2) rfl
  have t3 := HP5.out.cell (i := 3) rfl
  have t4 := HP5.out.cell (i := 4) rfl
  have t5 := HP5.out.cell (i := 5) rfl
  have t6 := HP5.out.cell (i := 6) rfl
  refine bodyPost_ret (v := .tuple #[.agg #[.int .i64 0, .slice none 0 0, .int .i64 0, .int .i64 0, .slice none 0 0, .slice none 0 0, .slice none 0 0], .slice none 0 0, .bool false]) (by simp [results, Tryz.results25, go_sem, t0, t1, t2, t3, t4, t5, t6]) rfl ?_
  have hA := unh_not (p := p) (e := e) (HNO.out)
  rw [hA.1, hA.2.1, hA.2.2]
  exact ⟨_, _, rfl, BN.out.trans (HT5.out.to_below (fun b e => by omega) BN.out.size), fun _ => False, fun _ => False, none_partF _ _, nilE _, fun _ h => h.elim, fun _ h => h.elim⟩
 have HEV : Hid (e.ok = true) := hev
 have HG : Hid (GoodP p) := Pa.ok_iff.1 HOK.out
 clear hev
 have e3 := E2.out.cell (i := 3) rfl
 have x0 := X2.out.cell (i := 0) rfl
 by_cases hdn : e.d = p.n
 case neg =>
  have HNO : Hid (¬ unhOk p e = true) := fun h => hdn (unhOk_iff.1 h).2.2
  have hdb : (e.d != p.n) = true := by simpa using hdn
  have ZN := Z2
  have BN := HB2
  clear hdn
  have z0 := ZN.out.cell (i := 0) rfl
  have z1 := ZN.out.cell (i := 1) rfl
  have z2 := ZN.out.cell (i := 2) rfl
  have z3 := ZN.out.cell (i := 3) rfl
  have z4 := ZN.out.cell (i := 4) rfl
  have z5 := ZN.out.cell (i := 5) rfl
  have z6 := ZN.out.cell (i := 6) rfl
  have zf := ZN.out.free
  obtain ⟨X5, hX5⟩ : ∃ X5, put7s w2 (w.heap.size + 1 + 1) (.int .i64 0) (.slice none 0 0) (.int .i64 0) (.int .i64 0) (.slice none 0 0) (.slice none 0 0) (.slice none 0 0) = X5 := ⟨_, rfl⟩
  have hP := ZN.out.put7s (.int .i64 0) (.slice none 0 0) (.int .i64 0) (.int .i64 0) (.slice none 0 0) (.slice none 0 0) (.slice none 0 0)
  have ht := put7s_turns w2 (w.heap.size + 1 + 1) (.int .i64 0) (.slice none 0 0) (.int .i64 0) (.int .i64 0) (.slice none 0 0) (.slice none 0 0) (.slice none 0 0)
  rw [hX5] at hP ht
  unfold put7s at hX5
  have HX5 : Hid _ := hX5
  have HP5 := hidUIh hP
  have HT5 := hidUIh ht
  clear hX5 hP ht
  go_wp2
  try rw [HX5.out]
  have t0 := HP5.out.cell (i := 0) rfl
  have t1 := HP5.out.cell (i := 1) rfl
  have t2 := HP5.out.cell (i := 2) rfl
  have t3 := HP5.out.cell (i := 3) rfl
  have t4 := HP5.out.cell (i := 4) rfl
  have t5 := HP5.out.cell (i := 5) rfl
  have t6 := HP5.out.cell (i := 6) rfl
  refine bodyPost_ret (v := .tuple #[.agg #[.int .i64 0, .slice none 0 0, .int .i64 0, .int .i64 0, .slice none 0 0, .slice none 0 0, .slice none 0 0], .slice none 0 0, .bool false]) (by simp [results, Tryz.results25, go_sem, t0, t1, t2, t3, t4, t5, t6]) rfl ?_
  have hA := unh_not (p := p) (e := e) (HNO.out)
  rw [hA.1, hA.2.1, hA.2.2]
  exact ⟨_, _, rfl, BN.out.trans (HT5.out.to_below (fun b e => by omega) BN.out.size), fun _ => False, fun _ => False, none_partF _ _, nilE _, fun _ h => h.elim, fun _ h => h.elim⟩
 have HDN : Hid (e.d = p.n) := hdn
 have hdb : (e.d != p.n) = false := by simpa using hdn
 have HYES : Hid (unhOk p e = true) := unhOk_iff.2 ⟨HOK.out, HEV.out, HDN.out⟩
 clear hdn x0 e3
 have x0 := X2.out.cell (i := 0) rfl
 have x1 := X2.out.cell (i := 1) rfl
 have x2 := X2.out.cell (i := 2) rfl
 have x3 := X2.out.cell (i := 3) rfl
 have x4 := X2.out.cell (i := 4) rfl
 have x5 := X2.out.cell (i := 5) rfl
 have x6 := X2.out.cell (i := 6) rfl
 have e3 := E2.out.cell (i := 3) rfl
 go_wp2_with fail
 clear hdb e3 x0 x1 x2 x3 x4 x5 x6
 refine (doerOf_any _ p _ HWT.out (HI.out.under HB2.out)).mono ?_
 rintro r w5 ⟨D, vr, vp, vt, va, A1, A4, rfl, hd, hb⟩
 have hs3 : w2.heap.size ≤ w5.heap.size := hb.size
 have HB23 := hidUIh hb
 have E3 := hidUIh (E2.out.below hb)
 have HD3 := hidUIh hd
 clear hb hd
 have e0 := E3.out.cell (i := 0) rfl
 have e1 := E3.out.cell (i := 1) rfl
 have e2 := E3.out.cell (i := 2) rfl
 have e3 := E3.out.cell (i := 3) rfl
 have e4 := E3.out.cell (i := 4) rfl
 have e5 := E3.out.cell (i := 5) rfl
 have e6 := E3.out.cell (i := 6) rfl
 go_wp2_with fail
 clear e0 e1 e2 e3 e4 e5 e6
 refine (unhear_any w2.heap.size D p e vr vp vt va A1 A4 w5 HWT.out HG.out HEV.out hs3 HD3.out).mono ?_
 rintro r w6 ⟨⟨ub, rfl⟩, ⟨vr', vp', vt', va', vu', A1', A4', hd⟩, hb⟩
 have h24 : Below w2.heap.size w2 w6 := HB23.out.trans hb
 have HB4 := hidUIh (HB2.out.trans (h24.mono HB2.out.size))
 have hs4 : w2.heap.size ≤ w6.heap.size := h24.size
 have Z4 := hidUIh (Z2.out.below h24)
 have X4 := hidUIh (X2.out.below h24)
 have HD4 := hidUIh hd
 have HAW : Hid ((unhQ p e).wt ≤ 1048576) := Nat.le_trans (unhQ_wt HG.out) (by omega)
 have HLOW : Hid (∀ k, vt'.ownBlock = some k → w.heap.size + 1 + 1 + 1 ≤ k ∧ w2.heap.size ≤ k) := fun k hk => by (have := (World.ownsRow.lt hd.cp.todo k hk).1; omega)
 clear hb hd h24 X2 E2 Z2 E3 HD3
 have x0 := X4.out.cell (i := 0) rfl
 have x1 := X4.out.cell (i := 1) rfl
 have x2 := X4.out.cell (i := 2) rfl
 have x3 := X4.out.cell (i := 3) rfl
 have x4 := X4.out.cell (i := 4) rfl
 have x5 := X4.out.cell (i := 5) rfl
 have x6 := X4.out.cell (i := 6) rfl
 go_wp2_with fail
 clear x0 x1 x2 x3 x4 x5 x6
 refine (outcome_any w2.heap.size D vr' vp' vt' va' vu' A1' A4' (unhQ p e) p (unhU p e) _ w6 HAW.out HWT.out hs4 HD4.out (fun w' ht => HI.out.under (HB4.out.trans (ht.to_below (fun k hk => by have := HLOW.out k hk; omega) HB4.out.size)))).mono ?_
 rintro r w7 ⟨y1, y2, rfl, ht, F1, F2, hF, hO, hd1, hd2⟩
 obtain ⟨A, hA0⟩ : ∃ A, outA (unhQ p e) p = A := ⟨_, rfl⟩
 obtain ⟨L, hL0⟩ : ∃ L, outB (unhQ p e) (unhU p e) = L := ⟨_, rfl⟩
 obtain ⟨bq, hb0⟩ : ∃ b, (unhQ p e).ok = b := ⟨_, rfl⟩
 have HAL : Hid (outA (unhQ p e) p = A ∧ outB (unhQ p e) (unhU p e) = L ∧ (unhQ p e).ok = bq) := ⟨hA0, hL0, hb0⟩
 rw [hA0] at hF
 rw [hL0] at hO
 rw [hb0]
 clear hA0 hL0 hb0
 have HB5 := hidUIh (HB4.out.trans (ht.to_below (fun k hk => by (have := HLOW.out k hk; omega)) HB4.out.size))
 have hs5 : w6.heap.size ≤ w7.heap.size := ht.size
 have Z5 := hidUIh (Z4.out.turns ht (fun e1 => by (have := HLOW.out _ e1; omega)))
 have HF5 : Hid (PartF F1 w7 y1 A) := hF
 have HO5 := hidUIh hO
 have HDF : Hid ((∀ k, F1 k → (w2.heap.size ≤ k ∧ k < w7.heap.size) ∧ ¬ F2 k) ∧ (∀ k, F2 k → w2.heap.size ≤ k ∧ k < w7.heap.size)) := ⟨hd1, hd2⟩
 obtain ⟨r1, s1, r4, s4, r5, s5, r6, s6, rfl⟩ := PartF.form hF
 obtain ⟨a2, c2, rfl, _⟩ := OwnD.parts (c := 7) (n := L.length) hO
 clear ht hF hO hd1 hd2 Z4 X4 HD4
 have z0 := Z5.out.cell (i := 0) rfl
 have z1 := Z5.out.cell (i := 1) rfl
 have z2 := Z5.out.cell (i := 2) rfl
 have z3 := Z5.out.cell (i := 3) rfl
 have z4 := Z5.out.cell (i := 4) rfl
 have z5 := Z5.out.cell (i := 5) rfl
 have z6 := Z5.out.cell (i := 6) rfl
 have zf := Z5.out.free
 obtain ⟨X5, hX5⟩ : ∃ X5, put7s w7 (w.heap.size + 1 + 1) (.int .i64 A.n) (.slice r1 A.st.r.length s1) (.int .i64 A.st.q) (.int .i64 A.st.d) (.slice r4 A.p.length s4) (.slice r5 A.t.length s5) (.slice r6 A.a.length s6) = X5 := ⟨_, rfl⟩
 have hP := Z5.out.put7s (.int .i64 A.n) (.slice r1 A.st.r.length s1) (.int .i64 A.st.q) (.int .i64 A.st.d) (.slice r4 A.p.length s4) (.slice r5 A.t.length s5) (.slice r6 A.a.length s6)
 have ht := put7s_turns w7 (w.heap.size + 1 + 1) (.int .i64 A.n) (.slice r1 A.st.r.length s1) (.int .i64 A.st.q) (.int .i64 A.st.d) (.slice r4 A.p.length s4) (.slice r5 A.t.length s5) (.slice r6 A.a.length s6)
 rw [hX5] at hP ht
 unfold put7s at hX5
 have HX5 : Hid _ := hX5
 have HP5 := hidUIh hP
 have HT5 := hidUIh ht
 clear hX5 hP ht
 go_wp2
 try rw [HX5.out]
 have t0 := HP5.out.cell (i := 0) rfl
 have t1 := HP5.out.cell (i := 1) rfl
 have t2 := HP5.out.cell (i := 2) rfl
 have t3 := HP5.out.cell (i := 3) rfl
 have t4 := HP5.out.cell (i := 4) rfl
 have t5 := HP5.out.cell (i := 5) rfl
 have t6 := HP5.out.cell (i := 6) rfl
 refine bodyPost_ret (v := .tuple #[.agg #[.int .i64 A.n, .slice r1 A.st.r.length s1, .int .i64 A.st.q, .int .i64 A.st.d, .slice r4 A.p.length s4, .slice r5 A.t.length s5, .slice r6 A.a.length s6], .slice a2 L.length c2, .bool bq]) (by simp [results, Tryz.results25, go_sem, t0, t1, t2, t3, t4, t5, t6]) rfl ?_
 obtain ⟨q1, q2, q3⟩ := unh_yes HYES.out
 rw [q1, q2, q3, HAL.out.1, HAL.out.2.1, HAL.out.2.2]
 have hsx := HT5.out.size
 exact ⟨_, _, rfl, HB5.out.trans (HT5.out.to_below (fun b e => by omega) HB5.out.size), F1, F2, HF5.out.turns HT5.out (fun b hb e => by have := HDF.out.1 b hb; omega), HO5.out.turns HT5.out (fun b hb e => by have := HDF.out.2 b hb; omega), fun b hb => ⟨by have := HDF.out.1 b hb; omega, (HDF.out.1 b hb).2⟩, fun b hb => by have := HDF.out.2 b hb; omega⟩
end Go.Proofs.YtnccenbkpocjgaaGreat
/- The specification's l4mark. -/
namespace Go.Proofs.YtnccenbkpocjgaaGreat
open Go.RowKit
theorem at_newI (w : World) (a : Value) : ∀ j u, [a][j]? = some u → (w.alloc (.cells #[a] 3)).cell? ((⟨w.heap.size, 0, none⟩ : Addr).add j) = some u := by
 intro j u hu
 match j, hu with
 | 0, hu => simp at hu; subst hu; simp [Addr.add]
 | (j + 1), hu => simp at hu
theorem oneI (a : Int) : ∀ u ∈ [Value.int .i64 a], u.oneCell' = true := by
 intro u hu
 simp at hu
 subst hu
 rfl
def stM (z : Int) (o : List Int × Bool) (x : Int) : List Int × Bool :=
 if x = z then (if o.2 then o else (o.1 ++ [z], true)) else if o.2 = false ∧ z < x then (o.1 ++ [z] ++ [x], true) else (o.1 ++ [x], o.2)
def fM (z : Int) (l : List Int) : List Int × Bool := l.foldl (stM z) ([], false)
theorem stM_len (z : Int) (o : List Int × Bool) (x : Int) : (stM z o x).1.length ≤ o.1.length + 2 := by
 unfold stM
 repeat' split
 all_goals simp
theorem fold_len (z : Int) : ∀ (l : List Int) (o : List Int × Bool), (l.foldl (stM z) o).1.length ≤ o.1.length + 2 * l.length
 | [], o => by simp
 | x :: l, o => by
  have h1 := fold_len z l (stM z o x)
  have h2 := stM_len z o x
  simp only [List.foldl_cons, List.length_cons]
  omega
theorem fM_len (z : Int) (l : List Int) : (fM z l).1.length ≤ 2 * l.length := by
 have := fold_len z l ([], false)
 unfold fM
 simpa using this
theorem fM_snoc (z : Int) (l : List Int) {j : Nat} (h : j < l.length) : fM z (l.take (j + 1)) = stM z (fM z (l.take j)) (intAt l j) := by
 unfold fM
 rw [List.take_succ_eq_append_getElem h, List.foldl_append]
 simp [intAt, h]
def mkR : List Int → Int → List Int
 | [], z => [z]
 | x :: l, z => if x < z then x :: mkR l z else if x = z then x :: l else z :: x :: l
def Up (l : List Int) : Prop := ∀ i, i + 1 < l.length → intAt l i < intAt l (i + 1)
theorem Up.tail {x : Int} {l : List Int} (h : Up (x :: l)) : Up l := fun i hi => by
 have := h (i + 1) (by simp; omega)
 simpa [intAt] using this
theorem Up.first {x : Int} {l : List Int} (h : Up (x :: l)) : ∀ y ∈ l, x < y := by
 induction l generalizing x with
 | nil => intro y hy; simp at hy
 | cons a l ih =>
  have h0 : x < a := by
   have := h 0 (by simp)
   simpa [intAt] using this
  intro y hy
  rcases List.mem_cons.1 hy with rfl | hy
  ·exact h0
  ·have := ih h.tail y hy
   omega
theorem Asc.up {l : List Int} (h : Asc l) : Up l := fun i hi => by
 have := (h (i + 1) hi).2.2 (by omega)
 simpa using this
theorem fold_past (z : Int) : ∀ (l : List Int) (o : List Int), (∀ y ∈ l, z < y) → l.foldl (stM z) (o, true) = (o ++ l, true)
 | [], o, _ => by simp
 | x :: l, o, h => by
  have hx := h x (by simp)
  rw [List.foldl_cons]
  have e : stM z (o, true) x = (o ++ [x], true) := by
   unfold stM
   rw [if_neg (by omega)]
   simp
  rw [e, fold_past z l _ (fun y hy => h y (by simp [hy]))]
  simp
def endM (z : Int) (o : List Int × Bool) : List Int := if o.2 then o.1 else o.1 ++ [z]
theorem fold_mk (z : Int) : ∀ (l : List Int) (o : List Int), Up l → endM z (l.foldl (stM z) (o, false)) = o ++ mkR l z
 | [], o, _ => by simp [endM, mkR]
 | x :: l, o, h => by
  rw [List.foldl_cons]
  by_cases h1 : x < z
  ·have e : stM z (o, false) x = (o ++ [x], false) := by
    unfold stM
    rw [if_neg (by omega), if_neg (by intro q; omega)]
   rw [e, fold_mk z l _ h.tail]
   simp [mkR, h1]
  ·by_cases h2 : x = z
   ·have e : stM z (o, false) x = (o ++ [z], true) := by
     unfold stM
     rw [if_pos h2]
     simp
    rw [e, fold_past z l _ (fun y hy => by have := h.first y hy; omega)]
    simp [mkR, endM, h2]
   ·have e : stM z (o, false) x = (o ++ [z] ++ [x], true) := by
     unfold stM
     rw [if_neg h2, if_pos ⟨rfl, by omega⟩]
    rw [e, fold_past z l _ (fun y hy => by have := h.first y hy; omega)]
    simp [mkR, endM, h1, h2]
theorem antiO_spec (l : List Int) (z : Int) : (∃ i, antiO l z = some i ∧ AntiAt l z i) ∨ (antiO l z = none ∧ ∀ y ∈ l, y ≠ z) := by
 by_cases h : ∃ i, AntiAt l z i
 ·refine .inl ⟨h.choose, ?_, h.choose_spec⟩
  unfold antiO
  rw [dif_pos h]
 ·refine .inr ⟨?_, fun y hy e => ?_⟩
  ·unfold antiO
   rw [dif_neg h]
  ·obtain ⟨i, hi, e1⟩ := List.getElem_of_mem hy
   exact h ⟨i, hi, by simp [intAt, hi, e1, e]⟩
theorem mkR_mark (z : Int) : ∀ l : List Int, Up l → mkR l z = markL l z
 | [], _ => by
  rcases antiO_spec [] z with ⟨i, _, h, _⟩ | ⟨h, _⟩
  ·simp at h
  ·rw [markL_none h]; simp [mkR]
 | x :: l, h => by
  have ih := mkR_mark z l h.tail
  by_cases h1 : x < z
  ·have e : mkR (x :: l) z = x :: mkR l z := by simp [mkR, h1]
   have ep : posZ (x :: l) z = posZ l z + 1 := by simp [posZ, h1]
   rw [e, ih]
   rcases antiO_spec l z with ⟨i, ha, hi⟩ | ⟨ha, hn⟩
   ·rw [markL_some ha]
    rcases antiO_spec (x :: l) z with ⟨k, hb, _⟩ | ⟨_, hm⟩
    ·rw [markL_some hb]
    ·refine absurd ?_ (hm z ?_)
     ·rfl
     ·have : z ∈ l := by
       rw [← hi.2]
       simp [intAt, hi.1]
      simp [this]
   ·rw [markL_none ha]
    rcases antiO_spec (x :: l) z with ⟨k, _, hk⟩ | ⟨hb, _⟩
    ·exfalso
     have hk2 := hk.2
     cases k with
     | zero => simp [intAt] at hk2; omega
     | succ k =>
      have hlt : k < l.length := by have := hk.1; simp at this; omega
      have e9 : l[k] = z := by simpa [intAt, hlt] using hk2
      exact hn _ (List.getElem_mem hlt) e9
    ·rw [markL_none hb, ep]
     simp
  ·by_cases h2 : x = z
   ·have e : mkR (x :: l) z = x :: l := by simp [mkR, h2]
    rw [e]
    rcases antiO_spec (x :: l) z with ⟨k, hb, _⟩ | ⟨_, hm⟩
    ·rw [markL_some hb]
    ·exact absurd h2 (hm x (by simp))
   ·have e : mkR (x :: l) z = z :: x :: l := by simp [mkR, h1, h2]
    rw [e]
    rcases antiO_spec (x :: l) z with ⟨k, _, hk⟩ | ⟨hb, _⟩
    ·exfalso
     have hm : z ∈ x :: l := by
      rw [← hk.2]
      have := hk.1
      have e9 : intAt (x :: l) k = (x :: l)[k] := by simp only [intAt, List.getD_eq_getElem?_getD]; rw [List.getElem?_eq_getElem this]; rfl
      rw [e9]
      exact List.getElem_mem this
     rcases List.mem_cons.1 hm with e1 | e1
     ·exact h2 e1.symm
     ·have := h.first z e1; omega
    ·have ep : posZ (x :: l) z = 0 := by simp [posZ, h1]
     rw [markL_none hb, ep]
     simp
theorem endM_mark {z : Int} {l : List Int} (h : Asc l) : endM z (fM z l) = markL l z := by
 unfold fM
 rw [fold_mk z l [] h.up, mkR_mark z l h.up]
 simp
def RowQ (B : Nat) (w : World) (v : Value) (l : List Int) : Prop := w.ownsRow B 3 1 v l.length (intCells l)
theorem RowQ.grow {B : Nat} {w : World} {v : Value} {l : List Int} {z : Int} (h : w.ownsRow B 3 1 v (l.length + 1) (intCells l ++ [.int .i64 z])) : RowQ B w v (l ++ [z]) := by
 unfold RowQ
 have e : intCells (l ++ [z]) = intCells l ++ [.int .i64 z] := by simp [intCells]
 rw [e, List.length_append]
 exact h
set_option maxRecDepth 100000 in
set_option maxHeartbeats 16000000 in
theorem l4mark_any (a : Option Addr) (cap : Nat) (l : List Int) (z : Int) (w : World) (hl : l.length ≤ 100000) (ha : Asc l) (h : IsI w (.slice a l.length cap) l) :
  Calls Tryz.prog 123 #[.slice a l.length cap, .int .i64 z] w fun r w' => (∃ v, r = .returned v ∧ RowQ w.heap.size w' v (markL l z)) ∧ Below w.heap.size w w' := by
 obtain ⟨ii, hii, hii0, hii1, hii2⟩ := info_parts infoSli
 have HI : Hid (l = [] ∨ ∃ b off, a = some ⟨b, off, none⟩ ∧ IntsAt w b off l) := by
  obtain ⟨a', c', e, _, _, h⟩ := h
  cases e
  exact h
 have HA : Hid (Asc l) := ha
 clear h ha
 go_enter Tryz.func123, Tryz.ntmps123
 go_wp2
 go_loopw [5, 6, 7] (fun o d i wr => ∃ (j : Nat) (v : Value), j ≤ l.length ∧ v = o ∧ i = .int .i64 j ∧ d = .bool (fM z (l.take j)).2 ∧ RowQ w.heap.size wr o (fM z (l.take j)).1 ∧ Below w.heap.size w wr) (fun _ _ i _ => l.length - (intOf i).toNat)
 case atStart => exact ⟨0, _, Nat.zero_le _, rfl, rfl, by simp [fM], by simpa [fM, RowQ, intCells] using World.ownsRow_nil w _ 3 1, Below.refl _ _⟩
 case round =>
  obtain ⟨j, o, hj, rfl, rfl, rfl, hR, hB⟩ := hrel
  have HBB : Hid (Below w.heap.size w wr) := hB
  have hs1 : w.heap.size ≤ wr.heap.size := hB.size
  have hbl : (fM z (l.take j)).1.length ≤ 200000 := Nat.le_trans (fM_len _ _) (by rw [List.length_take]; omega)
  by_cases hlt : j < l.length
  ·obtain ⟨b, off, rfl, hb, hc⟩ := HI.out.resolve_left (by intro e; rw [e] at hlt; simp at hlt)
   have hji : (j : Int) < (l.length : Int) := by omega
   have HK0 : Hid (w.cell? ⟨b, off + j, none⟩ = some (.int .i64 (intAt l j))) := by have := hc j hlt; show _ = _; simpa using this
   have k0 : wr.cell? ⟨b, off + j, none⟩ = some (.int .i64 (intAt l j)) := (hB.cell (p := ⟨b, off + j, none⟩) hb).trans HK0.out
   have hs := fM_snoc z l hlt
   clear hc hB
   generalize intAt l j = x at hs k0 HK0
   generalize fM z (l.take j) = f at hs hR hbl
   obtain ⟨L, d⟩ := f
   have HR : Hid (RowQ w.heap.size wr o L) := hR
   clear hR
   have hlL : L.length ≤ 200000 := hbl
   clear hbl
   cases d
   case false =>
    by_cases h1 : z ≤ x
    ·have hd1 : decide (z ≤ x) = true := by simpa using h1
     by_cases h2 : x = z
     ·have hn : (x != z) = false := by simpa using h2
      have HS : Hid (fM z (l.take (j + 1)) = (L ++ [z], true)) := by show _ = _; rw [hs]; simp [stM, h2]
      clear hs h2
      go_wp2_with (at_builtin; refine wpList_append_own _ rfl _ _ 22 rfl w.heap.size 3 ii (.int .i64 0) 1 8 Tryz.underlying22 hii hii0 hii1 hii2 rfl (by decide) o _ _ rfl (World.ownsRow.alloc HR.out _) ⟨wr.heap.size, 0, none⟩ 1 1 [.int .i64 z] rfl rfl (at_newI _ _) (oneI _) (by unfold maxLen; omega) (by omega) (by simp; omega) ?_; intro v4 w4 hownw4 hgroww4 hnilw4; have HR4 : Hid (RowQ w.heap.size w4 v4 (L ++ [z])) := RowQ.grow hownw4; have HB4 : Hid (Below w.heap.size w w4) := (HBB.out.alloc hs1 _).grown hgroww4 (by simp; omega) (fun q e => row_ge HR.out e); have hs4 : w.heap.size ≤ w4.heap.size := HB4.out.size; have hlL4 : (L ++ [z]).length ≤ 200001 := (by rw [List.length_append, List.length_singleton]; omega); have k4 : w4.cell? ⟨b, off + j, none⟩ = some (.int .i64 x) := (HB4.out.cell (p := ⟨b, off + j, none⟩) hb).trans HK0.out; clear k0)
      go_roundw
      case rel => exact ⟨j + 1, _, by omega, rfl, by go_num, by rw [HS.out], by rw [HS.out]; exact RowQ.grow hownw4, (HBB.out.alloc hs1 _).grown hgroww4 (by simp; omega) (fun q e => row_ge HR.out e)⟩
      case measure => simp [intOf]; omega
     ·have hn : (x != z) = true := by simpa using h2
      have HS : Hid (fM z (l.take (j + 1)) = (L ++ [z] ++ [x], true)) := by
       show _ = _
       rw [hs]
       unfold stM
       rw [if_neg h2, if_pos ⟨rfl, by omega⟩]
      clear hs
      go_wp2_with (first | (at_builtin; refine wpList_append_own _ rfl _ _ 22 rfl w.heap.size 3 ii (.int .i64 0) 1 8 Tryz.underlying22 hii hii0 hii1 hii2 rfl (by decide) o _ _ rfl (World.ownsRow.alloc HR.out _) ⟨wr.heap.size, 0, none⟩ 1 1 [.int .i64 z] rfl rfl (at_newI _ _) (oneI _) (by unfold maxLen; omega) (by omega) (by simp; omega) ?_; intro v4 w4 hownw4 hgroww4 hnilw4; have HR4 : Hid (RowQ w.heap.size w4 v4 (L ++ [z])) := RowQ.grow hownw4; have HB4 : Hid (Below w.heap.size w w4) := (HBB.out.alloc hs1 _).grown hgroww4 (by simp; omega) (fun q e => row_ge HR.out e); have hs4 : w.heap.size ≤ w4.heap.size := HB4.out.size; have hlL4 : (L ++ [z]).length ≤ 200001 := (by rw [List.length_append, List.length_singleton]; omega); have k4 : w4.cell? ⟨b, off + j, none⟩ = some (.int .i64 x) := (HB4.out.cell (p := ⟨b, off + j, none⟩) hb).trans HK0.out; clear k0) | (at_builtin; refine wpList_append_own _ rfl _ _ 22 rfl w.heap.size 3 ii (.int .i64 0) 1 8 Tryz.underlying22 hii hii0 hii1 hii2 rfl (by decide) v4 _ _ rfl (World.ownsRow.alloc HR4.out _) ⟨w4.heap.size, 0, none⟩ 1 1 [.int .i64 x] rfl rfl (at_newI _ _) (oneI _) (by unfold maxLen; omega) (by omega) (by simp; omega) ?_; intro v5 w5 hownw5 hgroww5 hnilw5))
      go_roundw
      case rel => exact ⟨j + 1, _, by omega, rfl, by go_num, by rw [HS.out], by rw [HS.out]; exact RowQ.grow hownw5, (HB4.out.alloc hs4 _).grown hgroww5 (by simp; omega) (fun q e => row_ge HR4.out e)⟩
      case measure => simp [intOf]; omega
    ·have hd1 : decide (z ≤ x) = false := by simpa using h1
     have hn : (x != z) = true := by simp; omega
     have HS : Hid (fM z (l.take (j + 1)) = (L ++ [x], false)) := by
      show _ = _
      rw [hs]
      unfold stM
      rw [if_neg (by omega), if_neg (by intro q; omega)]
     clear hs
     go_wp2_with (at_builtin; refine wpList_append_own _ rfl _ _ 22 rfl w.heap.size 3 ii (.int .i64 0) 1 8 Tryz.underlying22 hii hii0 hii1 hii2 rfl (by decide) o _ _ rfl (World.ownsRow.alloc HR.out _) ⟨wr.heap.size, 0, none⟩ 1 1 [.int .i64 x] rfl rfl (at_newI _ _) (oneI _) (by unfold maxLen; omega) (by omega) (by simp; omega) ?_; intro v4 w4 hownw4 hgroww4 hnilw4)
     go_roundw
     case rel => exact ⟨j + 1, _, by omega, rfl, by go_num, by rw [HS.out], by rw [HS.out]; exact RowQ.grow hownw4, (HBB.out.alloc hs1 _).grown hgroww4 (by simp; omega) (fun q e => row_ge HR.out e)⟩
     case measure => simp [intOf]; omega
   case true =>
    by_cases h2 : x = z
    ·have hn : (x != z) = false := by simpa using h2
     have HS : Hid (fM z (l.take (j + 1)) = (L, true)) := by show _ = _; rw [hs]; simp [stM, h2]
     clear hs h2
     go_wp2
     go_roundw
     case rel => exact ⟨j + 1, _, by omega, rfl, by go_num, by rw [HS.out], by rw [HS.out]; exact HR.out, HBB.out⟩
     case measure => simp [intOf]; omega
    ·have hn : (x != z) = true := by simpa using h2
     have HS : Hid (fM z (l.take (j + 1)) = (L ++ [x], true)) := by
      show _ = _
      rw [hs]
      unfold stM
      rw [if_neg h2, if_neg (by intro q; simp at q)]
     clear hs
     go_wp2_with (at_builtin; refine wpList_append_own _ rfl _ _ 22 rfl w.heap.size 3 ii (.int .i64 0) 1 8 Tryz.underlying22 hii hii0 hii1 hii2 rfl (by decide) o _ _ rfl (World.ownsRow.alloc HR.out _) ⟨wr.heap.size, 0, none⟩ 1 1 [.int .i64 x] rfl rfl (at_newI _ _) (oneI _) (by unfold maxLen; omega) (by omega) (by simp; omega) ?_; intro v4 w4 hownw4 hgroww4 hnilw4)
     go_roundw
     case rel => exact ⟨j + 1, _, by omega, rfl, by go_num, by rw [HS.out], by rw [HS.out]; exact RowQ.grow hownw4, (HBB.out.alloc hs1 _).grown hgroww4 (by simp; omega) (fun q e => row_ge HR.out e)⟩
     case measure => simp [intOf]; omega
  ·obtain rfl : l.length = j := by omega
   have HM := endM_mark (z := z) HA.out
   rw [List.take_length] at hR hbl ⊢
   generalize fM z l = f at HM hR hbl
   obtain ⟨L, d⟩ := f
   have HR : Hid (RowQ w.heap.size wr o L) := hR
   clear hR hB
   have hlL : L.length ≤ 200000 := hbl
   clear hbl
   cases d
   case true =>
    have HM2 : Hid (L = markL l z) := by show _ = _; simpa [endM] using HM
    clear HM
    go_wp2
    go_ret
    exact ⟨⟨_, rfl, HM2.out ▸ HR.out⟩, HBB.out⟩
   case false =>
    have HM2 : Hid (L ++ [z] = markL l z) := by show _ = _; simpa [endM] using HM
    clear HM
    go_wp2_with (at_builtin; refine wpList_append_own _ rfl _ _ 22 rfl w.heap.size 3 ii (.int .i64 0) 1 8 Tryz.underlying22 hii hii0 hii1 hii2 rfl (by decide) o _ _ rfl (World.ownsRow.alloc HR.out _) ⟨wr.heap.size, 0, none⟩ 1 1 [.int .i64 z] rfl rfl (at_newI _ _) (oneI _) (by unfold maxLen; omega) (by omega) (by simp; omega) ?_; intro v4 w4 hownw4 hgroww4 hnilw4)
    go_ret
    exact ⟨⟨_, rfl, HM2.out ▸ RowQ.grow hownw4⟩, (HBB.out.alloc hs1 _).grown hgroww4 (by simp; omega) (fun q e => row_ge HR.out e)⟩
end Go.Proofs.YtnccenbkpocjgaaGreat
