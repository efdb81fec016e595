/- The program's KernelNew. -/
import Derived.Test.YthfhibnnkpbeiaaGreatExactWorldNewG01
import Derived.Test.YthfhibnnkpbeiaaGreatExactWorldNewG27
import Derived.Test.YthfhibnnkpbeiaaGreatExactWorldNewG39
import Derived.Test.YthfhibnnkpbeiaaGreatExactWorldNewG42
import Derived.Test.YthfhibnnkpbeiaaGreatExactWorldNewG20
namespace Go.Proofs.YthfhibnnkpbeiaaGreat
open Go.RowKit
theorem hidKIn {p : Prop} (h : p) : Hid p := h
theorem newA_at {m : Md} {N k : Nat} (h : m.ok = true) (hN : m.n = (N : Int)) (hk : k < N) : newA m (k : Int) = newP m k := by
 have h1 : newOk m (k : Int) = true := by
  unfold newOk isPart
  rw [h, hN]
  simp
  omega
 rw [(new_yes h1).1]
 rfl
theorem app_part {B : Nat} {V0 w w3 : World} {v v3 : Value} {n : Nat} {cs : List Value} {l : List Pa} {G : Nat → Nat → Prop} {q : Pa} {b1 b4 b5 b6 : Option Addr} {e1 e4 e5 e6 : Nat} (h0 : GrowD B 70 V0 v 7 n cs (partsD_f l) G) (hb : Below V0.heap.size V0 w) (hB : B ≤ V0.heap.size)
  (hy : PartF (fun k => V0.heap.size ≤ k ∧ k < w.heap.size) w (.agg #[.int .i64 q.n, .slice b1 q.st.r.length e1, .int .i64 q.st.q, .int .i64 q.st.d, .slice b4 q.p.length e4, .slice b5 q.t.length e5, .slice b6 q.a.length e6]) q) (hq : q = paAt l n) (ho : w3.ownsRow B 70 7 v3 (n + 1) (cs ++ (partL q (.slice b1 q.st.r.length e1) (.slice b4 q.p.length e4) (.slice b5 q.t.length e5) (.slice b6 q.a.length e6)))) (hg : w.grownBy w3 v.ownBlock) (hw : NewRow w v v3) : PsG B w3 v3 (n + 1) l := by
 subst hq
 exact h0.snocPa hb hB hy _ _ _ _ rfl ho hg hw
theorem lay_any' (W : World) (xs : Array Value) (T : TypeId) : ∃ X V, Hid (X = W.heap.size) ∧ Hid (W.alloc (.cells xs T) = V) ∧ Below W.heap.size W V ∧ Bk V X T xs := ⟨_, _, rfl, rfl, (Below.refl _ W).alloc (Nat.le_refl _) _, Bk.new W _ _⟩
theorem rows8' {m : Md} (h : m.ok = true) (j : Nat) : (hAt m.h j).length ≤ 8 := by
 by_cases hj : j < m.h.length
 ·simp only [Md.ok, Bool.and_eq_true, decide_eq_true_eq] at h
  have hr : rowB m (hAt m.h j) = true := List.all_eq_true.1 h.1.2 j (by simpa using hj)
  simp only [rowB, Bool.and_eq_true, decide_eq_true_eq] at hr
  exact hr.1
 ·have : hAt m.h j = [] := by unfold hAt; simp [List.getElem?_eq_none (show m.h.length ≤ j by omega)]
  rw [this]; simp
theorem kern_own {w : World} {B n0 n1 : Nat} {m : Md} {d : List Int} {avi avh avs ad2 : Option Addr} {cvi cvh cvs cd2 cp N : Nat} {ap : Option Addr} {L : Nat} (hN : N = m.n.toNat) (h0 : L ≤ n0) (hM : MdF (fun j => n0 ≤ j ∧ j < n1) w (.agg #[.int .i64 m.n, .int .i64 m.s, .slice avi m.i.length cvi, .slice avh m.h.length cvh, .slice avs m.e.length cvs, .int .i64 m.z]) m) (hD : w.ownsRow n1 3 1 (.slice ad2 d.length cd2) d.length (intCells d)) (hlt : ∀ j, Value.ownBlock (.slice ad2 d.length cd2) = some j → j < B) (hn1 : n1 ≤ B) (hLB : L ≤ n1) (hP : PsG B w (.slice ap N cp) N (newPs m N)) (hBw : B ≤ w.heap.size) : KernF (fun j => L ≤ j ∧ j < w.heap.size) w (.agg #[.int .i64 m.n, .int .i64 m.s, .slice avi m.i.length cvi, .slice avh m.h.length cvh, .slice avs m.e.length cvs, .int .i64 m.z, .slice ad2 d.length cd2, .slice ap N cp, .slice none 0 0, .int .i64 6, .int .i64 (-1), .bool false, .slice none 0 0, .slice none 0 0]) (newK m d) := by
 subst hN
 obtain ⟨A, hA, hA9⟩ := PsG.ownD (l := newPs m m.n.toNat) (by rw [newPs_len]; exact hP)
 have hR := RowF.ownB (by rw [intCells_length]; omega) hD
 refine ⟨_, (fun j => Value.ownBlock (.slice ad2 d.length cd2) = some j), A, fun _ => False, fun _ => False, fun _ => False, _, _, _, _, _, _, _, _, rfl, hM, hR.own, hA, .nil _ _ _ _ _ (Nat.zero_le _), .nil _ _ _ _ _ (Nat.zero_le _), .nil _ _ _ _ _ (Nat.zero_le _), fun j hj => ⟨⟨by omega, by omega⟩, fun e => by have := row_ge hD e; omega, fun e => by have := hA9 j e; omega, id, id, id⟩, fun j hj => ⟨⟨by have := row_ge hD hj; omega, owns_lt hD hj⟩, fun e => by have := hA9 j e; have := hlt j hj; omega, id, id, id⟩, fun j hj => ⟨⟨by have := hA9 j hj; omega, (hA9 j hj).2⟩, id, id, id⟩, fun _ h => h.elim, fun _ h => h.elim, fun _ h => h.elim⟩
set_option maxRecDepth 100000 in
set_option maxHeartbeats 16000000 in
theorem iKernelNew (x : Value) (m : Md) (ad : Option Addr) (cd : Nat) (d : List Int) (w : World) (hs : SmallM m) (hdl : d.length ≤ 1048576) (h : IsM w x m) (hd : IsI w (.slice ad d.length cd) d) :
  Calls Tryz.prog 9 #[x, .slice ad d.length cd] w fun e w' => ∃ y, e = .returned (.tuple #[y, .bool (kOk m d)]) ∧ Below w.heap.size w w' ∧ KernF (fun j => w.heap.size ≤ j ∧ j < w'.heap.size) w' y (kernA m d) := by
 have HM : Hid (IsM w x m) := h
 have HD := hidKIn hd
 have HS : Hid (SmallM m) := hs
 obtain ⟨vi0, vh0, vs0, rfl, hI, hH, hE⟩ := h
 obtain ⟨ai, ci, rfl, _⟩ := hI
 obtain ⟨ah, ch, rfl, _⟩ := hH
 obtain ⟨ae, ce, rfl, _⟩ := hE
 clear hs hd
 obtain ⟨Rb, hRb⟩ : ∃ Rb, Rb = w.heap.size + 1 := ⟨_, rfl⟩
 obtain ⟨W0, hW0⟩ : ∃ W0, (w.alloc (.cells #[.int .i64 m.n, .int .i64 m.s, .slice ai m.i.length ci, .slice ah m.h.length ch, .slice ae m.e.length ce, .int .i64 m.z] 31)).alloc (.cells #[.int .i64 0, .int .i64 0, .slice none 0 0, .slice none 0 0, .slice none 0 0, .int .i64 0, .slice none 0 0, .slice none 0 0, .slice none 0 0, .int .i64 0, .int .i64 0, .bool false, .slice none 0 0, .slice none 0 0] 36) = W0 := ⟨_, rfl⟩
 have HP0 : Hid (Bk W0 w.heap.size 31 #[.int .i64 m.n, .int .i64 m.s, .slice ai m.i.length ci, .slice ah m.h.length ch, .slice ae m.e.length ce, .int .i64 m.z]) := hW0 ▸ (Bk.new w _ _).alloc _
 have HR0 : Hid (Bk W0 Rb 36 #[.int .i64 0, .int .i64 0, .slice none 0 0, .slice none 0 0, .slice none 0 0, .int .i64 0, .slice none 0 0, .slice none 0 0, .slice none 0 0, .int .i64 0, .int .i64 0, .bool false, .slice none 0 0, .slice none 0 0]) := by rw [← hW0]; exact Bk.newAt (by simp [hRb]) _ _
 have HB0 : Hid (Below w.heap.size w W0) := by rw [← hW0]; exact ((Below.refl _ w).alloc (Nat.le_refl _) _).alloc (by simp) _
 have HW0 := hidKIn hW0
 have HRB := hidKIn hRb
 have hRw : w.heap.size < Rb := by omega
 obtain ⟨c0, c1, c2, c3, c4, c5⟩ := c6_6 ((Bk.new w 31 #[.int .i64 m.n, .int .i64 m.s, .slice ai m.i.length ci, .slice ah m.h.length ch, .slice ae m.e.length ce, .int .i64 m.z]).alloc (.cells #[.int .i64 0, .int .i64 0, .slice none 0 0, .slice none 0 0, .slice none 0 0, .int .i64 0, .slice none 0 0, .slice none 0 0, .slice none 0 0, .int .i64 0, .int .i64 0, .bool false, .slice none 0 0, .slice none 0 0] 36))
 clear hW0 hRb
 go_enter Tryz.func9, Tryz.ntmps9
 go_wp2_with fail
 rw [HW0.out, ← HRB.out]
 clear HW0 c0 c1 c2 c3 c4 c5
 refine (iModM _ m W0 HS.out (HM.out.below HB0.out)).mono ?_
 rintro e w1 ⟨rfl, hb⟩
 have HP1 := hidKIn (HP0.out.below hb)
 have HR1 := hidKIn (HR0.out.below hb)
 have HB1 := hidKIn (HB0.out.trans (hb.mono HB0.out.size))
 clear hb HP0 HR0 HB0
 cases hok : m.ok
 case false =>
  have HNO : Hid (kOk m d = false) := (by unfold kOk; rw [hok]; rfl : kOk m d = false)
  clear hok
  obtain ⟨r0, r1, r2, r3, r4, r5, r6, r7, r8, r9, r10, r11, r12, r13⟩ := c14_14 HR1.out
  have rf := HR1.out.free
  obtain ⟨wf, hwf⟩ : ∃ X, put14 w1 Rb (.int .i64 0) (.int .i64 0) (.slice none 0 0) (.slice none 0 0) (.slice none 0 0) (.int .i64 0) (.slice none 0 0) (.slice none 0 0) (.slice none 0 0) (.int .i64 0) (.int .i64 0) (.bool false) (.slice none 0 0) (.slice none 0 0) = X := ⟨_, rfl⟩
  have HTF : Hid (Turns (fun j => j = Rb) w1 wf) := hwf ▸ put14_turns _ _ _ _ _ _ _ _ _ _ _ _ _ _ _ _
  have HRF : Hid (Bk wf Rb 36 #[.int .i64 0, .int .i64 0, .slice none 0 0, .slice none 0 0, .slice none 0 0, .int .i64 0, .slice none 0 0, .slice none 0 0, .slice none 0 0, .int .i64 0, .int .i64 0, .bool false, .slice none 0 0, .slice none 0 0]) := hwf ▸ HR1.out.put14 _ _ _ _ _ _ _ _ _ _ _ _ _ _
  obtain ⟨t0, t1, t2, t3, t4, t5, t6, t7, t8, t9, t10, t11, t12, t13⟩ := c14_14 HRF.out
  unfold put14 at hwf
  go_wp2
  refine bodyPost_ret (v := .tuple #[.agg #[.int .i64 0, .int .i64 0, .slice none 0 0, .slice none 0 0, .slice none 0 0, .int .i64 0, .slice none 0 0, .slice none 0 0, .slice none 0 0, .int .i64 0, .int .i64 0, .bool false, .slice none 0 0, .slice none 0 0], .bool false]) (by simp [results, Tryz.results9, go_sem, t0, t1, t2, t3, t4, t5, t6, t7, t8, t9, t10, t11, t12, t13]) rfl ⟨_, by rw [HNO.out], HB1.out.trans (HTF.out.to_below (fun j hj => by omega) HB1.out.size), ?_⟩
  rw [kern_no HNO.out]
  exact kn0_own _ _
 go_wp2_with fail
 refine (iVok_any _ d w1 (by omega) (HD.out.below HB1.out)).mono ?_
 rintro e w2 ⟨rfl, hb⟩
 have HP2 := hidKIn (HP1.out.below hb)
 have HR2 := hidKIn (HR1.out.below hb)
 have HB2 := hidKIn (HB1.out.trans (hb.mono HB1.out.size))
 clear hb HP1 HR1 HB1
 cases hv : vok d
 case false =>
  have HNO : Hid (kOk m d = false) := (by unfold kOk; rw [hok, hv]; rfl : kOk m d = false)
  clear hok hv
  obtain ⟨r0, r1, r2, r3, r4, r5, r6, r7, r8, r9, r10, r11, r12, r13⟩ := c14_14 HR2.out
  have rf := HR2.out.free
  obtain ⟨wf, hwf⟩ : ∃ X, put14 w2 Rb (.int .i64 0) (.int .i64 0) (.slice none 0 0) (.slice none 0 0) (.slice none 0 0) (.int .i64 0) (.slice none 0 0) (.slice none 0 0) (.slice none 0 0) (.int .i64 0) (.int .i64 0) (.bool false) (.slice none 0 0) (.slice none 0 0) = X := ⟨_, rfl⟩
  have HTF : Hid (Turns (fun j => j = Rb) w2 wf) := hwf ▸ put14_turns _ _ _ _ _ _ _ _ _ _ _ _ _ _ _ _
  have HRF : Hid (Bk wf Rb 36 #[.int .i64 0, .int .i64 0, .slice none 0 0, .slice none 0 0, .slice none 0 0, .int .i64 0, .slice none 0 0, .slice none 0 0, .slice none 0 0, .int .i64 0, .int .i64 0, .bool false, .slice none 0 0, .slice none 0 0]) := hwf ▸ HR2.out.put14 _ _ _ _ _ _ _ _ _ _ _ _ _ _
  obtain ⟨t0, t1, t2, t3, t4, t5, t6, t7, t8, t9, t10, t11, t12, t13⟩ := c14_14 HRF.out
  unfold put14 at hwf
  go_wp2
  refine bodyPost_ret (v := .tuple #[.agg #[.int .i64 0, .int .i64 0, .slice none 0 0, .slice none 0 0, .slice none 0 0, .int .i64 0, .slice none 0 0, .slice none 0 0, .slice none 0 0, .int .i64 0, .int .i64 0, .bool false, .slice none 0 0, .slice none 0 0], .bool false]) (by simp [results, Tryz.results9, go_sem, t0, t1, t2, t3, t4, t5, t6, t7, t8, t9, t10, t11, t12, t13]) rfl ⟨_, by rw [HNO.out], HB2.out.trans (HTF.out.to_below (fun j hj => by omega) HB2.out.size), ?_⟩
  rw [kern_no HNO.out]
  exact kn0_own _ _
 have HYE : Hid (kOk m d = true) := (by unfold kOk; rw [hok, hv]; rfl : kOk m d = true)
 have HOK : Hid (m.ok = true) := hok
 clear hok hv
 obtain ⟨p0, p1, p2, p3, p4, p5⟩ := c6_6 HP2.out
 go_wp2_with fail
 clear p0 p1 p2 p3 p4 p5
 obtain ⟨hil, hn0', hn4, he6⟩ := ok_lps HOK.out
 obtain ⟨N, hN⟩ : ∃ N, N = m.n.toNat := ⟨_, rfl⟩
 have HNI : Hid (m.n = (N : Int)) := (by omega : m.n = (N : Int))
 have HNN : Hid (N = m.n.toNat) := hN
 have hN4 : N ≤ 4 := by omega
 clear hN hil hn0' hn4
 refine (copyM_any _ m w2 (by have h9 := HS.out.i; omega) (by have h9 := HS.out.h; omega) (by omega) (fun j hj => Nat.le_trans (rows8' HOK.out j) (by omega)) (HM.out.below HB2.out)).mono ?_
 rintro e w3 ⟨y3, rfl, hb, hmd⟩
 obtain ⟨avi, cvi, avh, cvh, avs, cvs, rfl⟩ := hmd.form
 obtain ⟨n0, hn0⟩ : ∃ n, n = w2.heap.size := ⟨_, rfl⟩
 obtain ⟨n1, hn1⟩ : ∃ n, n = w3.heap.size := ⟨_, rfl⟩
 rw [← hn0, ← hn1] at hmd
 have HN0 : Hid (w.heap.size ≤ n0) := hn0 ▸ HB2.out.size
 have HN1 : Hid (n1 = w3.heap.size) := hn1
 have HRN : Hid (Rb < n0) := hn0 ▸ HR2.out.lt
 have HN01 : Hid (n0 ≤ n1) := (by rw [hn0, hn1]; exact hb.size : n0 ≤ n1)
 have HM3 := hidKIn hmd
 have HP3 := hidKIn (HP2.out.below hb)
 have HR3 := hidKIn (HR2.out.below hb)
 have HB3 := hidKIn (HB2.out.trans (hb.mono HB2.out.size))
 clear hb hmd hn0 hn1 HP2 HR2 HB2
 go_wp2_with fail
 refine (copyI_src _ d w3 (by omega) ((HD.out.below HB3.out).isD.srcI)).mono ?_
 rintro e w4 ⟨v4, rfl, ho, hb⟩
 obtain ⟨ad2, cd2, rfl⟩ := owns_slice ho
 rw [← HN1.out] at ho
 have HM4 := hidKIn (HM3.out.below hb)
 have HD4 := hidKIn ho
 have HP4 := hidKIn (HP3.out.below hb)
 have HR4 := hidKIn (HR3.out.below hb)
 have HB4 := hidKIn (HB3.out.trans (hb.mono HB3.out.size))
 have HN4 : Hid (n1 ≤ w4.heap.size) := HN1.out ▸ hb.size
 clear ho hb HM3 HP3 HR3 HB3
 obtain ⟨Kb, V5, HX, HV, hbv, hk5⟩ := lay_any' w4 #[.int .i64 m.n, .int .i64 m.s, .slice avi m.i.length cvi, .slice avh m.h.length cvh, .slice avs m.e.length cvs, .int .i64 m.z, .slice ad2 d.length cd2, .slice none 0 0, .slice none 0 0, .int .i64 6, .int .i64 (-1), .bool false, .slice none 0 0, .slice none 0 0] 36
 have HK5 := hidKIn hk5
 have HM5 := hidKIn (HM4.out.below hbv)
 have HD5 := hidKIn (owns_turns (S := fun _ => False) HD4.out (Turns.of_below hbv) (fun _ _ => id))
 have HP5 := hidKIn (HP4.out.below hbv)
 have HR5 := hidKIn (HR4.out.below hbv)
 have HB5 := hidKIn (HB4.out.trans (hbv.mono HB4.out.size))
 have hKn : n1 ≤ Kb := HX.out ▸ HN4.out
 have HDL : Hid (∀ j, Value.ownBlock (.slice ad2 d.length cd2) = some j → j < Kb) := fun j hj => HX.out ▸ owns_lt HD4.out hj
 have hRK : Rb < Kb := HX.out ▸ HR4.out.lt
 have q0 := (HP4.out.alloc (.cells #[.int .i64 m.n, .int .i64 m.s, .slice avi m.i.length cvi, .slice avh m.h.length cvh, .slice avs m.e.length cvs, .int .i64 m.z, .slice ad2 d.length cd2, .slice none 0 0, .slice none 0 0, .int .i64 6, .int .i64 (-1), .bool false, .slice none 0 0, .slice none 0 0] 36)).cell (i := 0) rfl
 clear hbv hk5 HM4 HD4 HP4 HR4 HB4
 obtain ⟨B, hBe⟩ : ∃ B, B = V5.heap.size := ⟨_, rfl⟩
 have HBE : Hid (B = V5.heap.size) := hBe
 have hKB : Kb < B := hBe ▸ HK5.out.lt
 have hRn : Hid (Rb < n0) := HRN.out
 have hwn := HN0.out
 have hnn := HN01.out
 clear hBe
 go_wp2
 rw [HV.out, ← HX.out]
 clear HV q0
 have HG5 : Hid (PsG B V5 (.slice none 0 0) 0 (newPs m N)) := PsG.nil _ _ _
 go_loopw [26] (fun i wr => ∃ (k : Nat) (vp : Value), k ≤ N ∧ i = .int .i64 k ∧ Hid (PsG B wr vp k (newPs m N)) ∧ Hid (Bk wr Kb 36 #[.int .i64 m.n, .int .i64 m.s, .slice avi m.i.length cvi, .slice avh m.h.length cvh, .slice avs m.e.length cvs, .int .i64 m.z, .slice ad2 d.length cd2, vp, .slice none 0 0, .int .i64 6, .int .i64 (-1), .bool false, .slice none 0 0, .slice none 0 0]) ∧ Hid (Turns (fun j => j = Kb) V5 wr)) (fun i _ => N - (intOf i).toNat)
 case atStart => exact ⟨0, _, Nat.zero_le _, rfl, HG5.out, HK5.out, Turns.refl _ _⟩
 case round =>
  clear HG5
  obtain ⟨k, vp, hk, rfl, HGr, HKr, HTr⟩ := hrel
  have HPr := hidKIn (HP5.out.turns HTr.out (fun e => by omega))
  have HBr := hidKIn (HB5.out.trans (HTr.out.to_below (fun j hj => by omega) HB5.out.size))
  have HSr : Hid (B ≤ wr.heap.size) := HBE.out ▸ HTr.out.size
  obtain ⟨cs9, hrow9⟩ := HGr.out.row
  obtain ⟨ap, cp, rfl⟩ := owns_slice hrow9
  clear hrow9
  by_cases hkN : k < N
  case pos =>
   have hkd : decide ((k : Int) < m.n) = true := by rw [HNI.out]; simpa using hkN
   have HNA : Hid (newA m (k : Int) = paAt (newPs m N) k) := (by rw [newPs_at m hkN]; exact newA_at HOK.out HNI.out hkN : newA m (k : Int) = paAt (newPs m N) k)
   obtain ⟨p0, p1, p2, p3, p4, p5⟩ := c6_6 HPr.out
   go_wp2_with fail
   clear p0 p1 p2 p3 p4 p5
   refine (iPartNew _ m (k : Int) wr HS.out (HM.out.below HBr.out)).mono ?_
   rintro e v1 ⟨y1, rfl, hb9, hy⟩
   rw [HNA.out] at hy
   obtain ⟨q, hq⟩ : ∃ q, q = paAt (newPs m N) k := ⟨_, rfl⟩
   rw [← hq] at hy
   have HQ := hidKIn hq
   obtain ⟨b1, e1, b4, e4, b5, e5, b6, e6, rfl⟩ := hy.form
   obtain ⟨X2, v2, HX2, HV2, hbv2, hs2⟩ := lay_any' v1 #[.int .i64 q.n, .slice b1 q.st.r.length e1, .int .i64 q.st.q, .int .i64 q.st.d, .slice b4 q.p.length e4, .slice b5 q.t.length e5, .slice b6 q.a.length e6] 70
   obtain ⟨X3, v3, HX3, HV3, hbv3, hs3⟩ := lay_any' v2 #[.int .i64 q.n, .slice b1 q.st.r.length e1, .int .i64 q.st.q, .int .i64 q.st.d, .slice b4 q.p.length e4, .slice b5 q.t.length e5, .slice b6 q.a.length e6] 70
   have HX9 : Hid (X3 = v1.heap.size + 1) := (by rw [HX3.out, ← HV2.out]; simp : X3 = v1.heap.size + 1)
   have hbw : Below wr.heap.size wr v3 := hb9.trans ((hbv2.mono hb9.size).trans (hbv3.mono (Nat.le_trans hb9.size hbv2.size)))
   have HBW := hidKIn hbw
   have hb13 : Below v1.heap.size v1 v3 := hbv2.trans (hbv3.mono hbv2.size)
   have HY : Hid (PartF (fun j => wr.heap.size ≤ j ∧ j < v3.heap.size) v3 (.agg #[.int .i64 q.n, .slice b1 q.st.r.length e1, .int .i64 q.st.q, .int .i64 q.st.d, .slice b4 q.p.length e4, .slice b5 q.t.length e5, .slice b6 q.a.length e6]) q) := (hy.under hb13).mono (fun j hj => ⟨hj.1, Nat.lt_of_lt_of_le hj.2 hb13.size⟩)
   have HS3 := hidKIn hs3
   have HKv := hidKIn (HKr.out.below hbw)
   have HKa := HKr.out.below hb9
   have HTv := hidKIn (HTr.out.trans (S := fun j => j = Kb) (Turns.of_below hbw))
   have HSv : Hid (B ≤ v3.heap.size) := Nat.le_trans HSr.out hbw.size
   have k7 := (HKa.alloc (.cells #[.int .i64 q.n, .slice b1 q.st.r.length e1, .int .i64 q.st.q, .int .i64 q.st.d, .slice b4 q.p.length e4, .slice b5 q.t.length e5, .slice b6 q.a.length e6] 70)).cell (i := 7) rfl
   obtain ⟨u0, u1, u2, u3, u4, u5, u6⟩ := c7_7 (Bk.new v1 70 #[.int .i64 q.n, .slice b1 q.st.r.length e1, .int .i64 q.st.q, .int .i64 q.st.d, .slice b4 q.p.length e4, .slice b5 q.t.length e5, .slice b6 q.a.length e6])
   obtain ⟨cs, G, hgd⟩ := HGr.out
   have HGD := hidKIn hgd
   clear hy hq hb9 hbv2 hs2 hbv3 hs3 hbw hb13 HKa hgd
   go_wp2_with (at_builtin; rw [HV2.out, HV3.out, ← HX9.out]; obtain ⟨i0, hi0, hz0, hz1, hz2⟩ := info_parts infoPt; refine wpList_append_src _ rfl _ _ 32 rfl B 70 i0 (.agg #[.int .i64 0, .slice none 0 0, .int .i64 0, .int .i64 0, .slice none 0 0, .slice none 0 0, .slice none 0 0]) 7 120 Tryz.underlying32 hi0 hz0 hz1 hz2 rfl (by decide) (.slice ap k cp) k cs rfl (HGD.out.below HBW.out).row (.slice (some ⟨X3, 0, none⟩) 1 1) 1 (partL q (.slice b1 q.st.r.length e1) (.slice b4 q.p.length e4) (.slice b5 q.t.length e5) (.slice b6 q.a.length e6)) rfl (src_part HS3.out) (partL_ones _ _ _ _ _ _ _ _ _ _ _ _ _) (by unfold maxLen; omega) (by omega) HSv.out ?_; intro v9 v4 ho hg hnr; clear hi0 hz0 hz1 hz2; obtain ⟨a9, c9, rfl⟩ := owns_slice ho; have hrow := (HGD.out.below HBW.out).row; have HG4 : Hid (PsG B v4 (.slice a9 (k + 1) c9) (k + 1) (newPs m N)) := app_part HGD.out HBW.out HSr.out HY.out HQ.out ho hg hnr; have HK4 : Hid (Bk v4 Kb 36 #[.int .i64 m.n, .int .i64 m.s, .slice avi m.i.length cvi, .slice avh m.h.length cvh, .slice avs m.e.length cvs, .int .i64 m.z, .slice ad2 d.length cd2, .slice ap k cp, .slice none 0 0, .int .i64 6, .int .i64 (-1), .bool false, .slice none 0 0, .slice none 0 0]) := HKv.out.turns (grown_turns hg) (owns_ne hrow HKv.out (by decide)); have HT4 : Hid (Turns (fun j => j = Kb) V5 v4) := HTv.out.grownNew hg (fun j e => by have h9 := row_ge hrow e; have h8 := HBE.out; omega); have j7 := HK4.out.cell (i := 7) rfl; have jf := HK4.out.free; clear ho hg hnr hrow)
   obtain ⟨wf, hwf⟩ : ∃ X, v4.setCell ⟨Kb, 7, none⟩ (.slice a9 (k + 1) c9) = X := ⟨_, rfl⟩
   have HTF : Hid (Turns (fun j => j = Kb) v4 wf) := hwf ▸ put1_turns _ _ 7 _
   have HKF : Hid (Bk wf Kb 36 #[.int .i64 m.n, .int .i64 m.s, .slice avi m.i.length cvi, .slice avh m.h.length cvh, .slice avs m.e.length cvs, .int .i64 m.z, .slice ad2 d.length cd2, .slice a9 (k + 1) c9, .slice none 0 0, .int .i64 6, .int .i64 (-1), .bool false, .slice none 0 0, .slice none 0 0]) := hwf ▸ HK4.out.put 7 _
   have HTF9 := hidKIn (HT4.out.trans HTF.out)
   have HGF := hidKIn (HG4.out.low HTF.out (fun j hj e => by omega))
   subst hwf
   refine ⟨⟨k + 1, _, by omega, by go_num, HGF.out, HKF.out, HTF9.out⟩, ?_⟩
   simp [intOf]
   omega
  case neg =>
   obtain rfl : k = N := by omega
   have hkd : decide ((k : Int) < m.n) = false := by rw [HNI.out]; simp
   have HRr := hidKIn (HR5.out.turns HTr.out (fun e => by omega))
   obtain ⟨m0, m1, m2, m3, m4, m5, m6, m7, m8, m9, m10, m11, m12, m13⟩ := c14_14 HKr.out
   obtain ⟨r0, r1, r2, r3, r4, r5, r6, r7, r8, r9, r10, r11, r12, r13⟩ := c14_14 HRr.out
   have rf := HRr.out.free
   obtain ⟨wf, hwf⟩ : ∃ X, put14 wr Rb (.int .i64 m.n) (.int .i64 m.s) (.slice avi m.i.length cvi) (.slice avh m.h.length cvh) (.slice avs m.e.length cvs) (.int .i64 m.z) (.slice ad2 d.length cd2) (.slice ap k cp) (.slice none 0 0) (.int .i64 6) (.int .i64 (-1)) (.bool false) (.slice none 0 0) (.slice none 0 0) = X := ⟨_, rfl⟩
   have HTF : Hid (Turns (fun j => j = Rb) wr wf) := hwf ▸ put14_turns _ _ _ _ _ _ _ _ _ _ _ _ _ _ _ _
   have HRF : Hid (Bk wf Rb 36 #[.int .i64 m.n, .int .i64 m.s, .slice avi m.i.length cvi, .slice avh m.h.length cvh, .slice avs m.e.length cvs, .int .i64 m.z, .slice ad2 d.length cd2, .slice ap k cp, .slice none 0 0, .int .i64 6, .int .i64 (-1), .bool false, .slice none 0 0, .slice none 0 0]) := hwf ▸ HRr.out.put14 _ _ _ _ _ _ _ _ _ _ _ _ _ _
   have HBF := hidKIn (HBr.out.trans (HTF.out.to_below (fun j hj => by omega) HBr.out.size))
   have HGF := hidKIn (HGr.out.low HTF.out (fun j hj e => by omega))
   have HMF := hidKIn ((HM5.out.turns HTr.out (fun j hj e => by omega)).turns HTF.out (fun j hj e => by have h9 := hRn.out; omega))
   have hd1 := owns_turns HD5.out HTr.out (fun j hj e => owns_ne HD5.out HK5.out (by decide) (e ▸ hj))
   have HDF : Hid (wf.ownsRow n1 3 1 (.slice ad2 d.length cd2) d.length (intCells d)) := owns_turns hd1 HTF.out (fun j hj e => owns_ne hd1 HRr.out (by decide) (e ▸ hj))
   have HSF : Hid (B ≤ wf.heap.size) := Nat.le_trans HSr.out HTF.out.size
   obtain ⟨t0, t1, t2, t3, t4, t5, t6, t7, t8, t9, t10, t11, t12, t13⟩ := c14_14 HRF.out
   unfold put14 at hwf
   clear hd1
   go_wp2
   refine bodyPost_ret (v := .tuple #[.agg #[.int .i64 m.n, .int .i64 m.s, .slice avi m.i.length cvi, .slice avh m.h.length cvh, .slice avs m.e.length cvs, .int .i64 m.z, .slice ad2 d.length cd2, .slice ap k cp, .slice none 0 0, .int .i64 6, .int .i64 (-1), .bool false, .slice none 0 0, .slice none 0 0], .bool true]) (by simp [results, Tryz.results9, go_sem, t0, t1, t2, t3, t4, t5, t6, t7, t8, t9, t10, t11, t12, t13]) rfl ⟨_, by rw [HYE.out], HBF.out, ?_⟩
   rw [kern_yes HYE.out]
   exact kern_own HNN.out HN0.out HMF.out HDF.out (fun j hj => Nat.lt_trans (HDL.out j hj) hKB) (by omega) (by omega) HGF.out HSF.out
end Go.Proofs.YthfhibnnkpbeiaaGreat
