/- At every model and vector the program's KernelNew answers as the specification's, its answer owns its memory, and it writes into nothing that it is given; no condition. -/
import Derived.Test.YthfhibnnkpbeiaaGreatExactKernelNewLKSn
import Derived.Test.YthfhibnnkpbeiaaGreatExactKernelNewLKIn
import Derived.Test.YthfhibnnkpbeiaaGreatExactKernelNewG44
import Derived.Test.YthfhibnnkpbeiaaGreatExactKernelNewG45
import Derived.Test.YthfhibnnkpbeiaaGreatExactKernelNewG28
import Derived.Deep.Cut
namespace Go.Proofs.YthfhibnnkpbeiaaGreat.LawExactKernelNew
open Go.ChangeShapes Go.WideShapes Go.ChangeAt Go.RowKit Go.Proofs.YthfhibnnkpbeiaaGreat
theorem KernF.form {F : Nat → Prop} {w : World} {y : Value} {k : Kn} (h : KernF F w y k) : ∃ ka kb kc kd ke kf kg kh ki kj kk kl km kn ko kp, y = .agg #[.int .i64 k.m.n, .int .i64 k.m.s, .slice ka k.m.i.length kb, .slice kc k.m.h.length kd, .slice ke k.m.e.length kf, .int .i64 k.m.z, .slice kg k.d.length kh, .slice ki k.p.length kj, .slice kk k.b.length kl, .int .i64 k.t, .int .i64 k.q, .bool k.f, .slice km k.s.length kn, .slice ko k.x.length kp] := by
 obtain ⟨_, _, _, _, _, _, vi, vh, vs, u6, u7, u8, u12, u13, rfl, hm, h6, h7, h8, h12, h13, _⟩ := h
 obtain ⟨b2, e2, b3, e3, b4, e4, he⟩ := hm.form
 obtain ⟨b6, e6, rfl, _⟩ := IsD.len h6.isD
 obtain ⟨b7, e7, rfl, _⟩ := IsD.len h7.isD
 obtain ⟨b8, e8, rfl, _⟩ := IsD.len h8.isD
 obtain ⟨b12, e12, rfl, _⟩ := IsD.len h12.isD
 obtain ⟨b13, e13, rfl, _⟩ := IsD.len h13.isD
 simp at he
 obtain ⟨rfl, rfl, rfl⟩ := he
 exact ⟨b2, e2, b3, e3, b4, e4, b6, e6, b7, e7, b8, e8, b12, e12, b13, e13, rfl⟩
theorem newPs_wt {m : Md} (h : m.ok = true) : (partsD (newPs m m.n.toNat)).wt ≤ 5000 := by
 obtain ⟨_, _, hn4, he6⟩ := ok_lps h
 rw [partsD_wt, newPs_len]
 have h1 : sumL (fun i => (paAt (newPs m m.n.toNat) i).wt) m.n.toNat ≤ sumL (fun _ => 1000) m.n.toNat := sumL_le (fun j hj => by rw [newPs_at m hj]; exact newP_wt he6)
 have h2 : ∀ n, sumL (fun _ => 1000) n = n * 1000 := by
  intro n
  induction n with
  | zero => rfl
  | succ n ih => simp only [sumL, ih]; omega
 rw [h2] at h1
 omega
theorem kern_small {m : Md} (l : List Int) (hm : SmallM m) (hl : l.length ≤ 1048576) : SmallK (kernA m l) ∧ TinyK (kernA m l) := by
 cases hk : kOk m l
 case false =>
  rw [kern_no hk]
  exact ⟨⟨⟨Nat.zero_le _, Nat.zero_le _, fun i => by simp [kn0, hAt], Nat.zero_le _, Nat.zero_le _⟩, by unfold Kn.wt; rw [ints_wt, partsD_wt, mails_wt, evs_wt, ems_wt]; simp [kn0, sumL]⟩, ⟨rfl, ⟨Nat.zero_le _, Nat.zero_le _, fun i => by simp [kn0, hAt], Nat.zero_le _, Nat.zero_le _⟩, by simp [kn0], by rw [partsD_wt]; simp [kn0, sumL], by simp [kn0], by simp [kn0]⟩⟩
 case true =>
  rw [kern_yes hk]
  simp only [kOk, Bool.and_eq_true] at hk
  have h1 := newPs_wt hk.1
  have h4 : l.length = 4 := by obtain ⟨a, b, c, e, rfl, _⟩ := vok_four hk.2; rfl
  exact ⟨⟨hm, by unfold Kn.wt; rw [ints_wt, mails_wt, evs_wt, ems_wt]; simp only [newK, List.length_nil]; omega⟩, ⟨rfl, hm, hl, Nat.le_trans h1 (by omega), by simp [newK], by simp [newK]⟩⟩
set_option maxRecDepth 100000 in
set_option maxHeartbeats 64000000 in
theorem walk (x : Value) (m : Md) (d : Value) (l : List Int) (w : World) (hx : IsM w x m) (hd : IsI w d l) :
  Calls Tryz.prog 3 #[x, d] w fun e w' => e = .returned (.bool true) ∧ Below w.heap.size w w' := by
 have HX : Hid (IsM w x m) := hx
 have HD : Hid (IsI w d l) := hd
 obtain ⟨vi0, vh0, vs0, rfl, _⟩ := hx
 obtain ⟨ad, cd, rfl, hd1, hd2, _⟩ := hd
 have hdm : l.length ≤ maxLen := Nat.le_trans hd1 hd2
 clear hd1 hd2
 unfold maxLen at hdm
 obtain ⟨W0, hW0⟩ : ∃ W0, w.alloc (.cells #[.int .i64 m.n, .int .i64 m.s, vi0, vh0, vs0, .int .i64 m.z] 26) = W0 := ⟨_, rfl⟩
 have HB_W0 : Hid (Below w.heap.size w W0) := by rw [← hW0]; exact (Below.refl _ w).alloc (Nat.le_refl _) _
 have HP_W0 : Hid (Bk W0 w.heap.size 26 #[.int .i64 m.n, .int .i64 m.s, vi0, vh0, vs0, .int .i64 m.z]) := by rw [← hW0]; exact Bk.new w _ _
 have hV0 : w.heap.size < W0.heap.size := HP_W0.out.lt
 by_cases hbig : (1048576 : Int) < (l.length : Int)
 case pos =>
  go_enter Tryz.func3, Tryz.ntmps3
  go_wp2
  go_ret
  exact ⟨rfl, HB_W0.out⟩
 have HL : Hid (l.length ≤ 1048576) := (by omega : l.length ≤ 1048576)
 have p0 := HP_W0.out.cell (i := 0) rfl
 have p1 := HP_W0.out.cell (i := 1) rfl
 have p2 := HP_W0.out.cell (i := 2) rfl
 have p3 := HP_W0.out.cell (i := 3) rfl
 have p4 := HP_W0.out.cell (i := 4) rfl
 have p5 := HP_W0.out.cell (i := 5) rfl
 go_enter Tryz.func3, Tryz.ntmps3
 go_wp2_with fail
 clear hW0 hdm
 clear p0 p1 p2 p3 p4 p5
 refine (szModel_le _ m _ (HX.out.below HB_W0.out)).mono ?_
 rintro r w1 ⟨⟨r1, rfl, hr⟩, hb⟩
 have z_w1 : W0.heap.size ≤ w1.heap.size := hb.size
 have HB_w1 : Hid (Below w.heap.size w w1) := HB_W0.out.trans (hb.mono HB_W0.out.size)
 have HP_w1 : Hid (Bk w1 w.heap.size 26 #[.int .i64 m.n, .int .i64 m.s, vi0, vh0, vs0, .int .i64 m.z]) := HP_W0.out.below hb
 clear HB_W0 HP_W0
 clear hb
 rcases hr with rfl | ⟨hr0, hr9, hsm⟩
 case inl =>
  go_wp2
  go_ret
  exact ⟨rfl, HB_w1.out⟩
 have hr1 : ¬ (r1 < 0) := by omega
 have HSM : Hid (SmallM m) := hsm
 clear hsm
 have HC : Hid (∃ R b, (SmallK R ∧ TinyK R) ∧ (∀ (v0 v1 : Value) (W : World), IsM W v0 m → IsI W v1 l → Calls Tryz.prog 6 #[v0, v1] W fun r w' => ∃ u, r = .returned (.tuple #[u, .bool b]) ∧ Below W.heap.size W w' ∧ KernF (fun k => W.heap.size ≤ k ∧ k < w'.heap.size) w' u R) ∧ (∀ (v0 v1 : Value) (W : World), IsM W v0 m → IsI W v1 l → Calls Tryz.prog 9 #[v0, v1] W fun r w' => ∃ u, r = .returned (.tuple #[u, .bool b]) ∧ Below W.heap.size W w' ∧ KernF (fun k => W.heap.size ≤ k ∧ k < w'.heap.size) w' u R)) := ⟨kernA m l, kOk m l, kern_small l HSM.out HL.out, fun v0 v1 W h0 h1 => by have h2 := h1; obtain ⟨a, c, rfl, _⟩ := h2; exact sKernelNew v0 m a c l W HSM.out HL.out h0 h1, fun v0 v1 W h0 h1 => by have h2 := h1; obtain ⟨a, c, rfl, _⟩ := h2; exact iKernelNew v0 m a c l W HSM.out HL.out h0 h1⟩
 obtain ⟨R, b, ⟨hq, hq2⟩, hsp, him⟩ := HC.out
 have HSP : Hid (∀ (v0 v1 : Value) (W : World), IsM W v0 m → IsI W v1 l → Calls Tryz.prog 6 #[v0, v1] W fun r w' => ∃ u, r = .returned (.tuple #[u, .bool b]) ∧ Below W.heap.size W w' ∧ KernF (fun k => W.heap.size ≤ k ∧ k < w'.heap.size) w' u R) := hsp
 have HIM : Hid (∀ (v0 v1 : Value) (W : World), IsM W v0 m → IsI W v1 l → Calls Tryz.prog 9 #[v0, v1] W fun r w' => ∃ u, r = .returned (.tuple #[u, .bool b]) ∧ Below W.heap.size W w' ∧ KernF (fun k => W.heap.size ≤ k ∧ k < w'.heap.size) w' u R) := him
 have HE : Hid (SmallK R) := hq
 have HTK : Hid (TinyK R) := hq2
 have HMK : Hid (0 ≤ markKn R) := (by have := tiny_marks hq2; omega : 0 ≤ markKn R)
 clear HC hsp him hq hq2
 have p0 := HP_w1.out.cell (i := 0) rfl
 have p1 := HP_w1.out.cell (i := 1) rfl
 have p2 := HP_w1.out.cell (i := 2) rfl
 have p3 := HP_w1.out.cell (i := 3) rfl
 have p4 := HP_w1.out.cell (i := 4) rfl
 have p5 := HP_w1.out.cell (i := 5) rfl
 go_wp2_with fail
 clear p0 p1 p2 p3 p4 p5
 refine (toModel_any _ m _ HSM.out (HX.out.below HB_w1.out)).mono ?_
 rintro r w2 ⟨ya, rfl, hb, hr⟩
 have z_w2 : w1.heap.size ≤ w2.heap.size := hb.size
 have HB_w2 : Hid (Below w.heap.size w w2) := HB_w1.out.trans (hb.mono HB_w1.out.size)
 have HP_w2 : Hid (Bk w2 w.heap.size 26 #[.int .i64 m.n, .int .i64 m.s, vi0, vh0, vs0, .int .i64 m.z]) := HP_w1.out.below hb
 clear HB_w1 HP_w1
 have HA_w2 : Hid (MdF (fun k => w1.heap.size ≤ k ∧ k < w2.heap.size) w2 ya m) := hr
 clear hb hr
 go_wp2_with fail
 refine (toI_any _ l _ HL.out (HD.out.below HB_w2.out)).mono ?_
 rintro r w3 ⟨rfl, hb, hr⟩
 have yy_w3 : w2.heap.size < w3.heap.size := hr.1
 have z_w3 : w2.heap.size ≤ w3.heap.size := hb.size
 have HB_w3 : Hid (Below w.heap.size w w3) := HB_w2.out.trans (hb.mono HB_w2.out.size)
 have HP_w3 : Hid (Bk w3 w.heap.size 26 #[.int .i64 m.n, .int .i64 m.s, vi0, vh0, vs0, .int .i64 m.z]) := HP_w2.out.below hb
 have HA_w3 : Hid (MdF (fun k => w1.heap.size ≤ k ∧ k < w2.heap.size) w3 ya m) := HA_w2.out.below hb
 clear HB_w2 HP_w2 HA_w2
 have HI_w3 : Hid (RowF (fun k => k = w2.heap.size) w3 (sl w2.heap.size l.length) l.length 1 (intCells l)) := hr.rowF (by have := HL.out; unfold maxLen; omega)
 clear hb hr
 go_wp2_with fail
 refine (HSP.out _ _ _ HA_w3.out.isM HI_w3.out.isI).mono ?_
 rintro r w4 ⟨uo, rfl, hb, hr⟩
 obtain ⟨kao, kbo, kco, kdo, keo, kfo, kgo, kho, kio, kjo, kko, klo, kmo, kno, koo, kpo, rfl⟩ := KernF.form hr
 have z_w4 : w3.heap.size ≤ w4.heap.size := hb.size
 have HB_w4 : Hid (Below w.heap.size w w4) := HB_w3.out.trans (hb.mono HB_w3.out.size)
 have HP_w4 : Hid (Bk w4 w.heap.size 26 #[.int .i64 m.n, .int .i64 m.s, vi0, vh0, vs0, .int .i64 m.z]) := HP_w3.out.below hb
 have HA_w4 : Hid (MdF (fun k => w1.heap.size ≤ k ∧ k < w2.heap.size) w4 ya m) := HA_w3.out.below hb
 have HI_w4 : Hid (RowF (fun k => k = w2.heap.size) w4 (sl w2.heap.size l.length) l.length 1 (intCells l)) := HI_w3.out.below hb
 clear HB_w3 HP_w3 HA_w3 HI_w3
 have HS_w4 : Hid (KernF (fun k => w3.heap.size ≤ k ∧ k < w4.heap.size) w4 (.agg #[.int .i64 R.m.n, .int .i64 R.m.s, .slice kao R.m.i.length kbo, .slice kco R.m.h.length kdo, .slice keo R.m.e.length kfo, .int .i64 R.m.z, .slice kgo R.d.length kho, .slice kio R.p.length kjo, .slice kko R.b.length klo, .int .i64 R.t, .int .i64 R.q, .bool R.f, .slice kmo R.s.length kno, .slice koo R.x.length kpo]) R) := hr
 clear hb hr
 obtain ⟨Vw4, hVw4⟩ : ∃ V, w4.alloc (.cells #[.int .i64 R.m.n, .int .i64 R.m.s, .slice kao R.m.i.length kbo, .slice kco R.m.h.length kdo, .slice keo R.m.e.length kfo, .int .i64 R.m.z, .slice kgo R.d.length kho, .slice kio R.p.length kjo, .slice kko R.b.length klo, .int .i64 R.t, .int .i64 R.q, .bool R.f, .slice kmo R.s.length kno, .slice koo R.x.length kpo] 36) = V := ⟨_, rfl⟩
 have BHSb : Bk Vw4 w4.heap.size 36 #[.int .i64 R.m.n, .int .i64 R.m.s, .slice kao R.m.i.length kbo, .slice kco R.m.h.length kdo, .slice keo R.m.e.length kfo, .int .i64 R.m.z, .slice kgo R.d.length kho, .slice kio R.p.length kjo, .slice kko R.b.length klo, .int .i64 R.t, .int .i64 R.q, .bool R.f, .slice kmo R.s.length kno, .slice koo R.x.length kpo] := by rw [← hVw4]; exact Bk.new _ _ _
 have hb : Below w4.heap.size w4 Vw4 := by rw [← hVw4]; exact (Below.refl _ _).alloc (Nat.le_refl _) _
 have y_Vw4 : w4.heap.size < Vw4.heap.size := BHSb.lt
 have z_Vw4 : w4.heap.size ≤ Vw4.heap.size := hb.size
 have HB_Vw4 : Hid (Below w.heap.size w Vw4) := HB_w4.out.trans (hb.mono HB_w4.out.size)
 have HP_Vw4 : Hid (Bk Vw4 w.heap.size 26 #[.int .i64 m.n, .int .i64 m.s, vi0, vh0, vs0, .int .i64 m.z]) := HP_w4.out.below hb
 have HA_Vw4 : Hid (MdF (fun k => w1.heap.size ≤ k ∧ k < w2.heap.size) Vw4 ya m) := HA_w4.out.below hb
 have HI_Vw4 : Hid (RowF (fun k => k = w2.heap.size) Vw4 (sl w2.heap.size l.length) l.length 1 (intCells l)) := HI_w4.out.below hb
 have HS_Vw4 : Hid (KernF (fun k => w3.heap.size ≤ k ∧ k < w4.heap.size) Vw4 (.agg #[.int .i64 R.m.n, .int .i64 R.m.s, .slice kao R.m.i.length kbo, .slice kco R.m.h.length kdo, .slice keo R.m.e.length kfo, .int .i64 R.m.z, .slice kgo R.d.length kho, .slice kio R.p.length kjo, .slice kko R.b.length klo, .int .i64 R.t, .int .i64 R.q, .bool R.f, .slice kmo R.s.length kno, .slice koo R.x.length kpo]) R) := HS_w4.out.below hb
 clear HB_w4 HP_w4 HA_w4 HI_w4 HS_w4
 clear hb
 have HSb_Vw4 : Hid (Bk Vw4 w4.heap.size 36 #[.int .i64 R.m.n, .int .i64 R.m.s, .slice kao R.m.i.length kbo, .slice kco R.m.h.length kdo, .slice keo R.m.e.length kfo, .int .i64 R.m.z, .slice kgo R.d.length kho, .slice kio R.p.length kjo, .slice kko R.b.length klo, .int .i64 R.t, .int .i64 R.q, .bool R.f, .slice kmo R.s.length kno, .slice koo R.x.length kpo]) := BHSb
 clear BHSb
 clear HA_Vw4 HI_Vw4
 clear HSP
 have p0 := HP_Vw4.out.cell (i := 0) rfl
 have p1 := HP_Vw4.out.cell (i := 1) rfl
 have p2 := HP_Vw4.out.cell (i := 2) rfl
 have p3 := HP_Vw4.out.cell (i := 3) rfl
 have p4 := HP_Vw4.out.cell (i := 4) rfl
 have p5 := HP_Vw4.out.cell (i := 5) rfl
 go_wp2_with fail
 clear hVw4
 clear p0 p1 p2 p3 p4 p5
 refine (toModel_any _ m _ HSM.out (HX.out.below HB_Vw4.out)).mono ?_
 rintro r w5 ⟨y1, rfl, hb, hr⟩
 have z_w5 : Vw4.heap.size ≤ w5.heap.size := hb.size
 have HB_w5 : Hid (Below w.heap.size w w5) := HB_Vw4.out.trans (hb.mono HB_Vw4.out.size)
 have HP_w5 : Hid (Bk w5 w.heap.size 26 #[.int .i64 m.n, .int .i64 m.s, vi0, vh0, vs0, .int .i64 m.z]) := HP_Vw4.out.below hb
 have HS_w5 : Hid (KernF (fun k => w3.heap.size ≤ k ∧ k < w4.heap.size) w5 (.agg #[.int .i64 R.m.n, .int .i64 R.m.s, .slice kao R.m.i.length kbo, .slice kco R.m.h.length kdo, .slice keo R.m.e.length kfo, .int .i64 R.m.z, .slice kgo R.d.length kho, .slice kio R.p.length kjo, .slice kko R.b.length klo, .int .i64 R.t, .int .i64 R.q, .bool R.f, .slice kmo R.s.length kno, .slice koo R.x.length kpo]) R) := HS_Vw4.out.below hb
 have HSb_w5 : Hid (Bk w5 w4.heap.size 36 #[.int .i64 R.m.n, .int .i64 R.m.s, .slice kao R.m.i.length kbo, .slice kco R.m.h.length kdo, .slice keo R.m.e.length kfo, .int .i64 R.m.z, .slice kgo R.d.length kho, .slice kio R.p.length kjo, .slice kko R.b.length klo, .int .i64 R.t, .int .i64 R.q, .bool R.f, .slice kmo R.s.length kno, .slice koo R.x.length kpo]) := HSb_Vw4.out.below hb
 clear HB_Vw4 HP_Vw4 HS_Vw4 HSb_Vw4
 have HR_w5 : Hid (MdF (fun k => Vw4.heap.size ≤ k ∧ k < w5.heap.size) w5 y1 m) := hr
 clear hb hr
 obtain ⟨aui, cui, auh, cuh, aue, cue, rfl⟩ := HR_w5.out.form
 obtain ⟨Vw5, hVw5⟩ : ∃ V, w5.alloc (.cells #[.int .i64 m.n, .int .i64 m.s, .slice aui m.i.length cui, .slice auh m.h.length cuh, .slice aue m.e.length cue, .int .i64 m.z] 31) = V := ⟨_, rfl⟩
 have BHX0 : Bk Vw5 w5.heap.size 31 #[.int .i64 m.n, .int .i64 m.s, .slice aui m.i.length cui, .slice auh m.h.length cuh, .slice aue m.e.length cue, .int .i64 m.z] := by rw [← hVw5]; exact Bk.new _ _ _
 have hb : Below w5.heap.size w5 Vw5 := by rw [← hVw5]; exact (Below.refl _ _).alloc (Nat.le_refl _) _
 have y_Vw5 : w5.heap.size < Vw5.heap.size := BHX0.lt
 have z_Vw5 : w5.heap.size ≤ Vw5.heap.size := hb.size
 have HB_Vw5 : Hid (Below w.heap.size w Vw5) := HB_w5.out.trans (hb.mono HB_w5.out.size)
 have HP_Vw5 : Hid (Bk Vw5 w.heap.size 26 #[.int .i64 m.n, .int .i64 m.s, vi0, vh0, vs0, .int .i64 m.z]) := HP_w5.out.below hb
 have HS_Vw5 : Hid (KernF (fun k => w3.heap.size ≤ k ∧ k < w4.heap.size) Vw5 (.agg #[.int .i64 R.m.n, .int .i64 R.m.s, .slice kao R.m.i.length kbo, .slice kco R.m.h.length kdo, .slice keo R.m.e.length kfo, .int .i64 R.m.z, .slice kgo R.d.length kho, .slice kio R.p.length kjo, .slice kko R.b.length klo, .int .i64 R.t, .int .i64 R.q, .bool R.f, .slice kmo R.s.length kno, .slice koo R.x.length kpo]) R) := HS_w5.out.below hb
 have HSb_Vw5 : Hid (Bk Vw5 w4.heap.size 36 #[.int .i64 R.m.n, .int .i64 R.m.s, .slice kao R.m.i.length kbo, .slice kco R.m.h.length kdo, .slice keo R.m.e.length kfo, .int .i64 R.m.z, .slice kgo R.d.length kho, .slice kio R.p.length kjo, .slice kko R.b.length klo, .int .i64 R.t, .int .i64 R.q, .bool R.f, .slice kmo R.s.length kno, .slice koo R.x.length kpo]) := HSb_w5.out.below hb
 have HR_Vw5 : Hid (MdF (fun k => Vw4.heap.size ≤ k ∧ k < w5.heap.size) Vw5 (.agg #[.int .i64 m.n, .int .i64 m.s, .slice aui m.i.length cui, .slice auh m.h.length cuh, .slice aue m.e.length cue, .int .i64 m.z]) m) := HR_w5.out.below hb
 clear HB_w5 HP_w5 HS_w5 HSb_w5 HR_w5
 clear hb
 have HX0_Vw5 : Hid (Bk Vw5 w5.heap.size 31 #[.int .i64 m.n, .int .i64 m.s, .slice aui m.i.length cui, .slice auh m.h.length cuh, .slice aue m.e.length cue, .int .i64 m.z]) := BHX0
 clear BHX0
 go_wp2_with fail
 clear hVw5
 refine (toI_any _ l _ HL.out (HD.out.below HB_Vw5.out)).mono ?_
 rintro r w6 ⟨rfl, hb, hr⟩
 have yy_w6 : Vw5.heap.size < w6.heap.size := hr.1
 have z_w6 : Vw5.heap.size ≤ w6.heap.size := hb.size
 have HB_w6 : Hid (Below w.heap.size w w6) := HB_Vw5.out.trans (hb.mono HB_Vw5.out.size)
 have HP_w6 : Hid (Bk w6 w.heap.size 26 #[.int .i64 m.n, .int .i64 m.s, vi0, vh0, vs0, .int .i64 m.z]) := HP_Vw5.out.below hb
 have HS_w6 : Hid (KernF (fun k => w3.heap.size ≤ k ∧ k < w4.heap.size) w6 (.agg #[.int .i64 R.m.n, .int .i64 R.m.s, .slice kao R.m.i.length kbo, .slice kco R.m.h.length kdo, .slice keo R.m.e.length kfo, .int .i64 R.m.z, .slice kgo R.d.length kho, .slice kio R.p.length kjo, .slice kko R.b.length klo, .int .i64 R.t, .int .i64 R.q, .bool R.f, .slice kmo R.s.length kno, .slice koo R.x.length kpo]) R) := HS_Vw5.out.below hb
 have HSb_w6 : Hid (Bk w6 w4.heap.size 36 #[.int .i64 R.m.n, .int .i64 R.m.s, .slice kao R.m.i.length kbo, .slice kco R.m.h.length kdo, .slice keo R.m.e.length kfo, .int .i64 R.m.z, .slice kgo R.d.length kho, .slice kio R.p.length kjo, .slice kko R.b.length klo, .int .i64 R.t, .int .i64 R.q, .bool R.f, .slice kmo R.s.length kno, .slice koo R.x.length kpo]) := HSb_Vw5.out.below hb
 have HR_w6 : Hid (MdF (fun k => Vw4.heap.size ≤ k ∧ k < w5.heap.size) w6 (.agg #[.int .i64 m.n, .int .i64 m.s, .slice aui m.i.length cui, .slice auh m.h.length cuh, .slice aue m.e.length cue, .int .i64 m.z]) m) := HR_Vw5.out.below hb
 have HX0_w6 : Hid (Bk w6 w5.heap.size 31 #[.int .i64 m.n, .int .i64 m.s, .slice aui m.i.length cui, .slice auh m.h.length cuh, .slice aue m.e.length cue, .int .i64 m.z]) := HX0_Vw5.out.below hb
 clear HB_Vw5 HP_Vw5 HS_Vw5 HSb_Vw5 HR_Vw5 HX0_Vw5
 have HJ_w6 : Hid (RowF (fun k => k = Vw5.heap.size) w6 (sl Vw5.heap.size l.length) l.length 1 (intCells l)) := hr.rowF (by have := HL.out; unfold maxLen; omega)
 clear hb hr
 have r0 := HX0_w6.out.cell (i := 0) rfl
 have r1 := HX0_w6.out.cell (i := 1) rfl
 have r2 := HX0_w6.out.cell (i := 2) rfl
 have r3 := HX0_w6.out.cell (i := 3) rfl
 have r4 := HX0_w6.out.cell (i := 4) rfl
 have r5 := HX0_w6.out.cell (i := 5) rfl
 go_wp2_with fail
 refine (HIM.out _ _ _ HR_w6.out.isM HJ_w6.out.isI).mono ?_
 rintro r w7 ⟨ug, rfl, hb, hr⟩
 obtain ⟨kag, kbg, kcg, kdg, keg, kfg, kgg, khg, kig, kjg, kkg, klg, kmg, kng, kog, kpg, rfl⟩ := KernF.form hr
 have z_w7 : w6.heap.size ≤ w7.heap.size := hb.size
 have HB_w7 : Hid (Below w.heap.size w w7) := HB_w6.out.trans (hb.mono HB_w6.out.size)
 have HP_w7 : Hid (Bk w7 w.heap.size 26 #[.int .i64 m.n, .int .i64 m.s, vi0, vh0, vs0, .int .i64 m.z]) := HP_w6.out.below hb
 have HS_w7 : Hid (KernF (fun k => w3.heap.size ≤ k ∧ k < w4.heap.size) w7 (.agg #[.int .i64 R.m.n, .int .i64 R.m.s, .slice kao R.m.i.length kbo, .slice kco R.m.h.length kdo, .slice keo R.m.e.length kfo, .int .i64 R.m.z, .slice kgo R.d.length kho, .slice kio R.p.length kjo, .slice kko R.b.length klo, .int .i64 R.t, .int .i64 R.q, .bool R.f, .slice kmo R.s.length kno, .slice koo R.x.length kpo]) R) := HS_w6.out.below hb
 have HSb_w7 : Hid (Bk w7 w4.heap.size 36 #[.int .i64 R.m.n, .int .i64 R.m.s, .slice kao R.m.i.length kbo, .slice kco R.m.h.length kdo, .slice keo R.m.e.length kfo, .int .i64 R.m.z, .slice kgo R.d.length kho, .slice kio R.p.length kjo, .slice kko R.b.length klo, .int .i64 R.t, .int .i64 R.q, .bool R.f, .slice kmo R.s.length kno, .slice koo R.x.length kpo]) := HSb_w6.out.below hb
 have HR_w7 : Hid (MdF (fun k => Vw4.heap.size ≤ k ∧ k < w5.heap.size) w7 (.agg #[.int .i64 m.n, .int .i64 m.s, .slice aui m.i.length cui, .slice auh m.h.length cuh, .slice aue m.e.length cue, .int .i64 m.z]) m) := HR_w6.out.below hb
 have HX0_w7 : Hid (Bk w7 w5.heap.size 31 #[.int .i64 m.n, .int .i64 m.s, .slice aui m.i.length cui, .slice auh m.h.length cuh, .slice aue m.e.length cue, .int .i64 m.z]) := HX0_w6.out.below hb
 have HJ_w7 : Hid (RowF (fun k => k = Vw5.heap.size) w7 (sl Vw5.heap.size l.length) l.length 1 (intCells l)) := HJ_w6.out.below hb
 clear HB_w6 HP_w6 HS_w6 HSb_w6 HR_w6 HX0_w6 HJ_w6
 have HG_w7 : Hid (KernF (fun k => w6.heap.size ≤ k ∧ k < w7.heap.size) w7 (.agg #[.int .i64 R.m.n, .int .i64 R.m.s, .slice kag R.m.i.length kbg, .slice kcg R.m.h.length kdg, .slice keg R.m.e.length kfg, .int .i64 R.m.z, .slice kgg R.d.length khg, .slice kig R.p.length kjg, .slice kkg R.b.length klg, .int .i64 R.t, .int .i64 R.q, .bool R.f, .slice kmg R.s.length kng, .slice kog R.x.length kpg]) R) := hr
 clear hb hr
 obtain ⟨Vw7, hVw7⟩ : ∃ V, w7.alloc (.cells #[.int .i64 R.m.n, .int .i64 R.m.s, .slice kag R.m.i.length kbg, .slice kcg R.m.h.length kdg, .slice keg R.m.e.length kfg, .int .i64 R.m.z, .slice kgg R.d.length khg, .slice kig R.p.length kjg, .slice kkg R.b.length klg, .int .i64 R.t, .int .i64 R.q, .bool R.f, .slice kmg R.s.length kng, .slice kog R.x.length kpg] 36) = V := ⟨_, rfl⟩
 have BHGb : Bk Vw7 w7.heap.size 36 #[.int .i64 R.m.n, .int .i64 R.m.s, .slice kag R.m.i.length kbg, .slice kcg R.m.h.length kdg, .slice keg R.m.e.length kfg, .int .i64 R.m.z, .slice kgg R.d.length khg, .slice kig R.p.length kjg, .slice kkg R.b.length klg, .int .i64 R.t, .int .i64 R.q, .bool R.f, .slice kmg R.s.length kng, .slice kog R.x.length kpg] := by rw [← hVw7]; exact Bk.new _ _ _
 have hb : Below w7.heap.size w7 Vw7 := by rw [← hVw7]; exact (Below.refl _ _).alloc (Nat.le_refl _) _
 have y_Vw7 : w7.heap.size < Vw7.heap.size := BHGb.lt
 have z_Vw7 : w7.heap.size ≤ Vw7.heap.size := hb.size
 have HB_Vw7 : Hid (Below w.heap.size w Vw7) := HB_w7.out.trans (hb.mono HB_w7.out.size)
 have HP_Vw7 : Hid (Bk Vw7 w.heap.size 26 #[.int .i64 m.n, .int .i64 m.s, vi0, vh0, vs0, .int .i64 m.z]) := HP_w7.out.below hb
 have HS_Vw7 : Hid (KernF (fun k => w3.heap.size ≤ k ∧ k < w4.heap.size) Vw7 (.agg #[.int .i64 R.m.n, .int .i64 R.m.s, .slice kao R.m.i.length kbo, .slice kco R.m.h.length kdo, .slice keo R.m.e.length kfo, .int .i64 R.m.z, .slice kgo R.d.length kho, .slice kio R.p.length kjo, .slice kko R.b.length klo, .int .i64 R.t, .int .i64 R.q, .bool R.f, .slice kmo R.s.length kno, .slice koo R.x.length kpo]) R) := HS_w7.out.below hb
 have HSb_Vw7 : Hid (Bk Vw7 w4.heap.size 36 #[.int .i64 R.m.n, .int .i64 R.m.s, .slice kao R.m.i.length kbo, .slice kco R.m.h.length kdo, .slice keo R.m.e.length kfo, .int .i64 R.m.z, .slice kgo R.d.length kho, .slice kio R.p.length kjo, .slice kko R.b.length klo, .int .i64 R.t, .int .i64 R.q, .bool R.f, .slice kmo R.s.length kno, .slice koo R.x.length kpo]) := HSb_w7.out.below hb
 have HR_Vw7 : Hid (MdF (fun k => Vw4.heap.size ≤ k ∧ k < w5.heap.size) Vw7 (.agg #[.int .i64 m.n, .int .i64 m.s, .slice aui m.i.length cui, .slice auh m.h.length cuh, .slice aue m.e.length cue, .int .i64 m.z]) m) := HR_w7.out.below hb
 have HX0_Vw7 : Hid (Bk Vw7 w5.heap.size 31 #[.int .i64 m.n, .int .i64 m.s, .slice aui m.i.length cui, .slice auh m.h.length cuh, .slice aue m.e.length cue, .int .i64 m.z]) := HX0_w7.out.below hb
 have HJ_Vw7 : Hid (RowF (fun k => k = Vw5.heap.size) Vw7 (sl Vw5.heap.size l.length) l.length 1 (intCells l)) := HJ_w7.out.below hb
 have HG_Vw7 : Hid (KernF (fun k => w6.heap.size ≤ k ∧ k < w7.heap.size) Vw7 (.agg #[.int .i64 R.m.n, .int .i64 R.m.s, .slice kag R.m.i.length kbg, .slice kcg R.m.h.length kdg, .slice keg R.m.e.length kfg, .int .i64 R.m.z, .slice kgg R.d.length khg, .slice kig R.p.length kjg, .slice kkg R.b.length klg, .int .i64 R.t, .int .i64 R.q, .bool R.f, .slice kmg R.s.length kng, .slice kog R.x.length kpg]) R) := HG_w7.out.below hb
 clear HB_w7 HP_w7 HS_w7 HSb_w7 HR_w7 HX0_w7 HJ_w7 HG_w7
 clear hb
 have HGb_Vw7 : Hid (Bk Vw7 w7.heap.size 36 #[.int .i64 R.m.n, .int .i64 R.m.s, .slice kag R.m.i.length kbg, .slice kcg R.m.h.length kdg, .slice keg R.m.e.length kfg, .int .i64 R.m.z, .slice kgg R.d.length khg, .slice kig R.p.length kjg, .slice kkg R.b.length klg, .int .i64 R.t, .int .i64 R.q, .bool R.f, .slice kmg R.s.length kng, .slice kog R.x.length kpg]) := BHGb
 clear BHGb
 clear r0 r1 r2 r3 r4 r5
 have g0 := HGb_Vw7.out.cell (i := 0) rfl
 have g1 := HGb_Vw7.out.cell (i := 1) rfl
 have g2 := HGb_Vw7.out.cell (i := 2) rfl
 have g3 := HGb_Vw7.out.cell (i := 3) rfl
 have g4 := HGb_Vw7.out.cell (i := 4) rfl
 have g5 := HGb_Vw7.out.cell (i := 5) rfl
 have g6 := HGb_Vw7.out.cell (i := 6) rfl
 have g7 := HGb_Vw7.out.cell (i := 7) rfl
 have g8 := HGb_Vw7.out.cell (i := 8) rfl
 have g9 := HGb_Vw7.out.cell (i := 9) rfl
 have g10 := HGb_Vw7.out.cell (i := 10) rfl
 have g11 := HGb_Vw7.out.cell (i := 11) rfl
 have g12 := HGb_Vw7.out.cell (i := 12) rfl
 have g13 := HGb_Vw7.out.cell (i := 13) rfl
 have t0 := HSb_Vw7.out.cell (i := 0) rfl
 have t1 := HSb_Vw7.out.cell (i := 1) rfl
 have t2 := HSb_Vw7.out.cell (i := 2) rfl
 have t3 := HSb_Vw7.out.cell (i := 3) rfl
 have t4 := HSb_Vw7.out.cell (i := 4) rfl
 have t5 := HSb_Vw7.out.cell (i := 5) rfl
 have t6 := HSb_Vw7.out.cell (i := 6) rfl
 have t7 := HSb_Vw7.out.cell (i := 7) rfl
 have t8 := HSb_Vw7.out.cell (i := 8) rfl
 have t9 := HSb_Vw7.out.cell (i := 9) rfl
 have t10 := HSb_Vw7.out.cell (i := 10) rfl
 have t11 := HSb_Vw7.out.cell (i := 11) rfl
 have t12 := HSb_Vw7.out.cell (i := 12) rfl
 have t13 := HSb_Vw7.out.cell (i := 13) rfl
 go_wp2_with fail
 clear hVw7
 clear g0 g1 g2 g3 g4 g5 g6 g7 g8 g9 g10 g11 g12 g13
 clear t0 t1 t2 t3 t4 t5 t6 t7 t8 t9 t10 t11 t12 t13
 refine (eqKernel_same _ _ R _ HE.out HG_Vw7.out.is HS_Vw7.out.is).mono ?_
 rintro r w8 ⟨rfl, hb⟩
 have z_w8 : Vw7.heap.size ≤ w8.heap.size := hb.size
 have HB_w8 : Hid (Below w.heap.size w w8) := HB_Vw7.out.trans (hb.mono HB_Vw7.out.size)
 have HP_w8 : Hid (Bk w8 w.heap.size 26 #[.int .i64 m.n, .int .i64 m.s, vi0, vh0, vs0, .int .i64 m.z]) := HP_Vw7.out.below hb
 have HS_w8 : Hid (KernF (fun k => w3.heap.size ≤ k ∧ k < w4.heap.size) w8 (.agg #[.int .i64 R.m.n, .int .i64 R.m.s, .slice kao R.m.i.length kbo, .slice kco R.m.h.length kdo, .slice keo R.m.e.length kfo, .int .i64 R.m.z, .slice kgo R.d.length kho, .slice kio R.p.length kjo, .slice kko R.b.length klo, .int .i64 R.t, .int .i64 R.q, .bool R.f, .slice kmo R.s.length kno, .slice koo R.x.length kpo]) R) := HS_Vw7.out.below hb
 have HSb_w8 : Hid (Bk w8 w4.heap.size 36 #[.int .i64 R.m.n, .int .i64 R.m.s, .slice kao R.m.i.length kbo, .slice kco R.m.h.length kdo, .slice keo R.m.e.length kfo, .int .i64 R.m.z, .slice kgo R.d.length kho, .slice kio R.p.length kjo, .slice kko R.b.length klo, .int .i64 R.t, .int .i64 R.q, .bool R.f, .slice kmo R.s.length kno, .slice koo R.x.length kpo]) := HSb_Vw7.out.below hb
 have HR_w8 : Hid (MdF (fun k => Vw4.heap.size ≤ k ∧ k < w5.heap.size) w8 (.agg #[.int .i64 m.n, .int .i64 m.s, .slice aui m.i.length cui, .slice auh m.h.length cuh, .slice aue m.e.length cue, .int .i64 m.z]) m) := HR_Vw7.out.below hb
 have HX0_w8 : Hid (Bk w8 w5.heap.size 31 #[.int .i64 m.n, .int .i64 m.s, .slice aui m.i.length cui, .slice auh m.h.length cuh, .slice aue m.e.length cue, .int .i64 m.z]) := HX0_Vw7.out.below hb
 have HJ_w8 : Hid (RowF (fun k => k = Vw5.heap.size) w8 (sl Vw5.heap.size l.length) l.length 1 (intCells l)) := HJ_Vw7.out.below hb
 have HG_w8 : Hid (KernF (fun k => w6.heap.size ≤ k ∧ k < w7.heap.size) w8 (.agg #[.int .i64 R.m.n, .int .i64 R.m.s, .slice kag R.m.i.length kbg, .slice kcg R.m.h.length kdg, .slice keg R.m.e.length kfg, .int .i64 R.m.z, .slice kgg R.d.length khg, .slice kig R.p.length kjg, .slice kkg R.b.length klg, .int .i64 R.t, .int .i64 R.q, .bool R.f, .slice kmg R.s.length kng, .slice kog R.x.length kpg]) R) := HG_Vw7.out.below hb
 have HGb_w8 : Hid (Bk w8 w7.heap.size 36 #[.int .i64 R.m.n, .int .i64 R.m.s, .slice kag R.m.i.length kbg, .slice kcg R.m.h.length kdg, .slice keg R.m.e.length kfg, .int .i64 R.m.z, .slice kgg R.d.length khg, .slice kig R.p.length kjg, .slice kkg R.b.length klg, .int .i64 R.t, .int .i64 R.q, .bool R.f, .slice kmg R.s.length kng, .slice kog R.x.length kpg]) := HGb_Vw7.out.below hb
 clear HB_Vw7 HP_Vw7 HS_Vw7 HSb_Vw7 HR_Vw7 HX0_Vw7 HJ_Vw7 HG_Vw7 HGb_Vw7
 clear hb
 have r0 := HX0_w8.out.cell (i := 0) rfl
 have r1 := HX0_w8.out.cell (i := 1) rfl
 have r2 := HX0_w8.out.cell (i := 2) rfl
 have r3 := HX0_w8.out.cell (i := 3) rfl
 have r4 := HX0_w8.out.cell (i := 4) rfl
 have r5 := HX0_w8.out.cell (i := 5) rfl
 have p0 := HP_w8.out.cell (i := 0) rfl
 have p1 := HP_w8.out.cell (i := 1) rfl
 have p2 := HP_w8.out.cell (i := 2) rfl
 have p3 := HP_w8.out.cell (i := 3) rfl
 have p4 := HP_w8.out.cell (i := 4) rfl
 have p5 := HP_w8.out.cell (i := 5) rfl
 go_wp2_with fail
 go_region_held3 (fun W => W.cell? ⟨w5.heap.size, 0, none⟩ = some (.int .i64 m.n) ∧ W.cell? ⟨w5.heap.size, 1, none⟩ = some (.int .i64 m.s) ∧ W.cell? ⟨w5.heap.size, 2, none⟩ = some (.slice aui m.i.length cui) ∧ W.cell? ⟨w5.heap.size, 3, none⟩ = some (.slice auh m.h.length cuh) ∧ W.cell? ⟨w5.heap.size, 4, none⟩ = some (.slice aue m.e.length cue) ∧ W.cell? ⟨w5.heap.size, 5, none⟩ = some (.int .i64 m.z) ∧ W.cell? ⟨w.heap.size, 0, none⟩ = some (.int .i64 m.n) ∧ W.cell? ⟨w.heap.size, 1, none⟩ = some (.int .i64 m.s) ∧ W.cell? ⟨w.heap.size, 2, none⟩ = some vi0 ∧ W.cell? ⟨w.heap.size, 3, none⟩ = some vh0 ∧ W.cell? ⟨w.heap.size, 4, none⟩ = some vs0 ∧ W.cell? ⟨w.heap.size, 5, none⟩ = some (.int .i64 m.z)) ((repeat' apply And.intro) <;> first | (go_keep; done) | (rw [hcA _ _ (by first | omega | (simp; omega))]; simp [*]; done))
  (first | (go_at_call 7; refine (toModel_any _ m _ HSM.out (HX.out.below HB_w8.out.drew)).mono ?_; rintro r w9 ⟨yx, rfl, hbw9, hr2⟩; obtain ⟨hcA, hfA⟩ := bcell hbw9; have hzw9 : w8.heap.size ≤ w9.heap.size := hbw9.size) | (go_at_call 11; refine (eqModel_same _ _ m _ HSM.out (HR_w8.out.below ((Below.refl _ w8).drew.trans hbw9)).isM hr2.isM).mono ?_; rintro r w10 ⟨rfl, hbw10⟩; obtain ⟨hcA, hfA⟩ := bcell hbw10; have hzw10 : w9.heap.size ≤ w10.heap.size := hbw10.size))
 clear hcA hfA
 have hbc : Below w8.heap.size w8 w10 := ((Below.refl w8.heap.size w8).drew.trans (hbw9.mono (Nat.le_refl _))).trans (hbw10.mono (by omega))
 clear r0 r1 r2 r3 r4 r5
 clear p0 p1 p2 p3 p4 p5
 have z_w10 : w8.heap.size ≤ w10.heap.size := hbc.size
 have HB_w10 : Hid (Below w.heap.size w w10) := HB_w8.out.trans (hbc.mono HB_w8.out.size)
 have HP_w10 : Hid (Bk w10 w.heap.size 26 #[.int .i64 m.n, .int .i64 m.s, vi0, vh0, vs0, .int .i64 m.z]) := HP_w8.out.below hbc
 have HS_w10 : Hid (KernF (fun k => w3.heap.size ≤ k ∧ k < w4.heap.size) w10 (.agg #[.int .i64 R.m.n, .int .i64 R.m.s, .slice kao R.m.i.length kbo, .slice kco R.m.h.length kdo, .slice keo R.m.e.length kfo, .int .i64 R.m.z, .slice kgo R.d.length kho, .slice kio R.p.length kjo, .slice kko R.b.length klo, .int .i64 R.t, .int .i64 R.q, .bool R.f, .slice kmo R.s.length kno, .slice koo R.x.length kpo]) R) := HS_w8.out.below hbc
 have HSb_w10 : Hid (Bk w10 w4.heap.size 36 #[.int .i64 R.m.n, .int .i64 R.m.s, .slice kao R.m.i.length kbo, .slice kco R.m.h.length kdo, .slice keo R.m.e.length kfo, .int .i64 R.m.z, .slice kgo R.d.length kho, .slice kio R.p.length kjo, .slice kko R.b.length klo, .int .i64 R.t, .int .i64 R.q, .bool R.f, .slice kmo R.s.length kno, .slice koo R.x.length kpo]) := HSb_w8.out.below hbc
 have HR_w10 : Hid (MdF (fun k => Vw4.heap.size ≤ k ∧ k < w5.heap.size) w10 (.agg #[.int .i64 m.n, .int .i64 m.s, .slice aui m.i.length cui, .slice auh m.h.length cuh, .slice aue m.e.length cue, .int .i64 m.z]) m) := HR_w8.out.below hbc
 have HX0_w10 : Hid (Bk w10 w5.heap.size 31 #[.int .i64 m.n, .int .i64 m.s, .slice aui m.i.length cui, .slice auh m.h.length cuh, .slice aue m.e.length cue, .int .i64 m.z]) := HX0_w8.out.below hbc
 have HJ_w10 : Hid (RowF (fun k => k = Vw5.heap.size) w10 (sl Vw5.heap.size l.length) l.length 1 (intCells l)) := HJ_w8.out.below hbc
 have HG_w10 : Hid (KernF (fun k => w6.heap.size ≤ k ∧ k < w7.heap.size) w10 (.agg #[.int .i64 R.m.n, .int .i64 R.m.s, .slice kag R.m.i.length kbg, .slice kcg R.m.h.length kdg, .slice keg R.m.e.length kfg, .int .i64 R.m.z, .slice kgg R.d.length khg, .slice kig R.p.length kjg, .slice kkg R.b.length klg, .int .i64 R.t, .int .i64 R.q, .bool R.f, .slice kmg R.s.length kng, .slice kog R.x.length kpg]) R) := HG_w8.out.below hbc
 have HGb_w10 : Hid (Bk w10 w7.heap.size 36 #[.int .i64 R.m.n, .int .i64 R.m.s, .slice kag R.m.i.length kbg, .slice kcg R.m.h.length kdg, .slice keg R.m.e.length kfg, .int .i64 R.m.z, .slice kgg R.d.length khg, .slice kig R.p.length kjg, .slice kkg R.b.length klg, .int .i64 R.t, .int .i64 R.q, .bool R.f, .slice kmg R.s.length kng, .slice kog R.x.length kpg]) := HGb_w8.out.below hbc
 clear HB_w8 HP_w8 HS_w8 HSb_w8 HR_w8 HX0_w8 HJ_w8 HG_w8 HGb_w8
 clear hbc hr2 hbw9 hzw9 hbw10 hzw10
 go_wp2_with fail
 refine (toI_any _ l _ HL.out (HD.out.below HB_w10.out)).mono ?_
 rintro r w11 ⟨rfl, hb, hr⟩
 have yy_w11 : w10.heap.size < w11.heap.size := hr.1
 have z_w11 : w10.heap.size ≤ w11.heap.size := hb.size
 have HB_w11 : Hid (Below w.heap.size w w11) := HB_w10.out.trans (hb.mono HB_w10.out.size)
 have HP_w11 : Hid (Bk w11 w.heap.size 26 #[.int .i64 m.n, .int .i64 m.s, vi0, vh0, vs0, .int .i64 m.z]) := HP_w10.out.below hb
 have HS_w11 : Hid (KernF (fun k => w3.heap.size ≤ k ∧ k < w4.heap.size) w11 (.agg #[.int .i64 R.m.n, .int .i64 R.m.s, .slice kao R.m.i.length kbo, .slice kco R.m.h.length kdo, .slice keo R.m.e.length kfo, .int .i64 R.m.z, .slice kgo R.d.length kho, .slice kio R.p.length kjo, .slice kko R.b.length klo, .int .i64 R.t, .int .i64 R.q, .bool R.f, .slice kmo R.s.length kno, .slice koo R.x.length kpo]) R) := HS_w10.out.below hb
 have HSb_w11 : Hid (Bk w11 w4.heap.size 36 #[.int .i64 R.m.n, .int .i64 R.m.s, .slice kao R.m.i.length kbo, .slice kco R.m.h.length kdo, .slice keo R.m.e.length kfo, .int .i64 R.m.z, .slice kgo R.d.length kho, .slice kio R.p.length kjo, .slice kko R.b.length klo, .int .i64 R.t, .int .i64 R.q, .bool R.f, .slice kmo R.s.length kno, .slice koo R.x.length kpo]) := HSb_w10.out.below hb
 have HR_w11 : Hid (MdF (fun k => Vw4.heap.size ≤ k ∧ k < w5.heap.size) w11 (.agg #[.int .i64 m.n, .int .i64 m.s, .slice aui m.i.length cui, .slice auh m.h.length cuh, .slice aue m.e.length cue, .int .i64 m.z]) m) := HR_w10.out.below hb
 have HX0_w11 : Hid (Bk w11 w5.heap.size 31 #[.int .i64 m.n, .int .i64 m.s, .slice aui m.i.length cui, .slice auh m.h.length cuh, .slice aue m.e.length cue, .int .i64 m.z]) := HX0_w10.out.below hb
 have HJ_w11 : Hid (RowF (fun k => k = Vw5.heap.size) w11 (sl Vw5.heap.size l.length) l.length 1 (intCells l)) := HJ_w10.out.below hb
 have HG_w11 : Hid (KernF (fun k => w6.heap.size ≤ k ∧ k < w7.heap.size) w11 (.agg #[.int .i64 R.m.n, .int .i64 R.m.s, .slice kag R.m.i.length kbg, .slice kcg R.m.h.length kdg, .slice keg R.m.e.length kfg, .int .i64 R.m.z, .slice kgg R.d.length khg, .slice kig R.p.length kjg, .slice kkg R.b.length klg, .int .i64 R.t, .int .i64 R.q, .bool R.f, .slice kmg R.s.length kng, .slice kog R.x.length kpg]) R) := HG_w10.out.below hb
 have HGb_w11 : Hid (Bk w11 w7.heap.size 36 #[.int .i64 R.m.n, .int .i64 R.m.s, .slice kag R.m.i.length kbg, .slice kcg R.m.h.length kdg, .slice keg R.m.e.length kfg, .int .i64 R.m.z, .slice kgg R.d.length khg, .slice kig R.p.length kjg, .slice kkg R.b.length klg, .int .i64 R.t, .int .i64 R.q, .bool R.f, .slice kmg R.s.length kng, .slice kog R.x.length kpg]) := HGb_w10.out.below hb
 clear HB_w10 HP_w10 HS_w10 HSb_w10 HR_w10 HX0_w10 HJ_w10 HG_w10 HGb_w10
 have HJ2_w11 : Hid (RowF (fun k => k = w10.heap.size) w11 (sl w10.heap.size l.length) l.length 1 (intCells l)) := hr.rowF (by have := HL.out; unfold maxLen; omega)
 clear hb hr
 go_wp2_with fail
 refine (eqI_same _ _ l _ (by have := HL.out; omega) HJ_w11.out.isI HJ2_w11.out.isI).mono ?_
 rintro r w12 ⟨rfl, hb⟩
 have z_w12 : w11.heap.size ≤ w12.heap.size := hb.size
 have HB_w12 : Hid (Below w.heap.size w w12) := HB_w11.out.trans (hb.mono HB_w11.out.size)
 have HP_w12 : Hid (Bk w12 w.heap.size 26 #[.int .i64 m.n, .int .i64 m.s, vi0, vh0, vs0, .int .i64 m.z]) := HP_w11.out.below hb
 have HS_w12 : Hid (KernF (fun k => w3.heap.size ≤ k ∧ k < w4.heap.size) w12 (.agg #[.int .i64 R.m.n, .int .i64 R.m.s, .slice kao R.m.i.length kbo, .slice kco R.m.h.length kdo, .slice keo R.m.e.length kfo, .int .i64 R.m.z, .slice kgo R.d.length kho, .slice kio R.p.length kjo, .slice kko R.b.length klo, .int .i64 R.t, .int .i64 R.q, .bool R.f, .slice kmo R.s.length kno, .slice koo R.x.length kpo]) R) := HS_w11.out.below hb
 have HSb_w12 : Hid (Bk w12 w4.heap.size 36 #[.int .i64 R.m.n, .int .i64 R.m.s, .slice kao R.m.i.length kbo, .slice kco R.m.h.length kdo, .slice keo R.m.e.length kfo, .int .i64 R.m.z, .slice kgo R.d.length kho, .slice kio R.p.length kjo, .slice kko R.b.length klo, .int .i64 R.t, .int .i64 R.q, .bool R.f, .slice kmo R.s.length kno, .slice koo R.x.length kpo]) := HSb_w11.out.below hb
 have HR_w12 : Hid (MdF (fun k => Vw4.heap.size ≤ k ∧ k < w5.heap.size) w12 (.agg #[.int .i64 m.n, .int .i64 m.s, .slice aui m.i.length cui, .slice auh m.h.length cuh, .slice aue m.e.length cue, .int .i64 m.z]) m) := HR_w11.out.below hb
 have HX0_w12 : Hid (Bk w12 w5.heap.size 31 #[.int .i64 m.n, .int .i64 m.s, .slice aui m.i.length cui, .slice auh m.h.length cuh, .slice aue m.e.length cue, .int .i64 m.z]) := HX0_w11.out.below hb
 have HJ_w12 : Hid (RowF (fun k => k = Vw5.heap.size) w12 (sl Vw5.heap.size l.length) l.length 1 (intCells l)) := HJ_w11.out.below hb
 have HG_w12 : Hid (KernF (fun k => w6.heap.size ≤ k ∧ k < w7.heap.size) w12 (.agg #[.int .i64 R.m.n, .int .i64 R.m.s, .slice kag R.m.i.length kbg, .slice kcg R.m.h.length kdg, .slice keg R.m.e.length kfg, .int .i64 R.m.z, .slice kgg R.d.length khg, .slice kig R.p.length kjg, .slice kkg R.b.length klg, .int .i64 R.t, .int .i64 R.q, .bool R.f, .slice kmg R.s.length kng, .slice kog R.x.length kpg]) R) := HG_w11.out.below hb
 have HGb_w12 : Hid (Bk w12 w7.heap.size 36 #[.int .i64 R.m.n, .int .i64 R.m.s, .slice kag R.m.i.length kbg, .slice kcg R.m.h.length kdg, .slice keg R.m.e.length kfg, .int .i64 R.m.z, .slice kgg R.d.length khg, .slice kig R.p.length kjg, .slice kkg R.b.length klg, .int .i64 R.t, .int .i64 R.q, .bool R.f, .slice kmg R.s.length kng, .slice kog R.x.length kpg]) := HGb_w11.out.below hb
 clear HB_w11 HP_w11 HS_w11 HSb_w11 HR_w11 HX0_w11 HJ_w11 HG_w11 HGb_w11 HJ2_w11
 clear hb
 have r0 := HX0_w12.out.cell (i := 0) rfl
 have r1 := HX0_w12.out.cell (i := 1) rfl
 have r2 := HX0_w12.out.cell (i := 2) rfl
 have r3 := HX0_w12.out.cell (i := 3) rfl
 have r4 := HX0_w12.out.cell (i := 4) rfl
 have r5 := HX0_w12.out.cell (i := 5) rfl
 go_wp2_with fail
 clear r0 r1 r2 r3 r4 r5
 refine (markModel_any HSM.out HR_w12.out (fun k e => by omega)).mono ?_
 rintro r w13 ⟨rfl, _, ht⟩
 have z_w13 : w12.heap.size ≤ w13.heap.size := ht.size
 have HB_w13 : Hid (Below w.heap.size w w13) := HB_w12.out.trans (ht.to_below (fun k e => by omega) (by omega))
 have HP_w13 : Hid (Bk w13 w.heap.size 26 #[.int .i64 m.n, .int .i64 m.s, vi0, vh0, vs0, .int .i64 m.z]) := HP_w12.out.turns ht (fun e => by omega)
 have HS_w13 : Hid (KernF (fun k => w3.heap.size ≤ k ∧ k < w4.heap.size) w13 (.agg #[.int .i64 R.m.n, .int .i64 R.m.s, .slice kao R.m.i.length kbo, .slice kco R.m.h.length kdo, .slice keo R.m.e.length kfo, .int .i64 R.m.z, .slice kgo R.d.length kho, .slice kio R.p.length kjo, .slice kko R.b.length klo, .int .i64 R.t, .int .i64 R.q, .bool R.f, .slice kmo R.s.length kno, .slice koo R.x.length kpo]) R) := HS_w12.out.turns ht (fun k e => by omega)
 have HSb_w13 : Hid (Bk w13 w4.heap.size 36 #[.int .i64 R.m.n, .int .i64 R.m.s, .slice kao R.m.i.length kbo, .slice kco R.m.h.length kdo, .slice keo R.m.e.length kfo, .int .i64 R.m.z, .slice kgo R.d.length kho, .slice kio R.p.length kjo, .slice kko R.b.length klo, .int .i64 R.t, .int .i64 R.q, .bool R.f, .slice kmo R.s.length kno, .slice koo R.x.length kpo]) := HSb_w12.out.turns ht (fun e => by omega)
 have HJ_w13 : Hid (RowF (fun k => k = Vw5.heap.size) w13 (sl Vw5.heap.size l.length) l.length 1 (intCells l)) := HJ_w12.out.turns ht (fun k e => by omega)
 have HG_w13 : Hid (KernF (fun k => w6.heap.size ≤ k ∧ k < w7.heap.size) w13 (.agg #[.int .i64 R.m.n, .int .i64 R.m.s, .slice kag R.m.i.length kbg, .slice kcg R.m.h.length kdg, .slice keg R.m.e.length kfg, .int .i64 R.m.z, .slice kgg R.d.length khg, .slice kig R.p.length kjg, .slice kkg R.b.length klg, .int .i64 R.t, .int .i64 R.q, .bool R.f, .slice kmg R.s.length kng, .slice kog R.x.length kpg]) R) := HG_w12.out.turns ht (fun k e => by omega)
 have HGb_w13 : Hid (Bk w13 w7.heap.size 36 #[.int .i64 R.m.n, .int .i64 R.m.s, .slice kag R.m.i.length kbg, .slice kcg R.m.h.length kdg, .slice keg R.m.e.length kfg, .int .i64 R.m.z, .slice kgg R.d.length khg, .slice kig R.p.length kjg, .slice kkg R.b.length klg, .int .i64 R.t, .int .i64 R.q, .bool R.f, .slice kmg R.s.length kng, .slice kog R.x.length kpg]) := HGb_w12.out.turns ht (fun e => by omega)
 clear HB_w12 HP_w12 HS_w12 HSb_w12 HR_w12 HX0_w12 HJ_w12 HG_w12 HGb_w12
 clear ht
 obtain ⟨mk, hmk⟩ : ∃ mk, markNo m = mk := ⟨_, rfl⟩
 have hmk0 : 1 ≤ mk := hmk ▸ markNo_pos m
 have hmk1 : mk ≤ 1000000000 := hmk ▸ markNo_top HSM.out
 rw [hmk]
 clear hmk
 have hl9 : l.length ≤ 1048577 := by have := HL.out; omega
 go_wp2_with fail
 refine (markIF (F := fun k => k = Vw5.heap.size) mk hl9 (by omega) (by omega) HJ_w13.out).mono ?_
 rintro r w14 ⟨rfl, _, ht⟩
 have z_w14 : w13.heap.size ≤ w14.heap.size := ht.size
 have HB_w14 : Hid (Below w.heap.size w w14) := HB_w13.out.trans (ht.to_below (fun k e => by omega) (by omega))
 have HP_w14 : Hid (Bk w14 w.heap.size 26 #[.int .i64 m.n, .int .i64 m.s, vi0, vh0, vs0, .int .i64 m.z]) := HP_w13.out.turns ht (fun e => by omega)
 have HS_w14 : Hid (KernF (fun k => w3.heap.size ≤ k ∧ k < w4.heap.size) w14 (.agg #[.int .i64 R.m.n, .int .i64 R.m.s, .slice kao R.m.i.length kbo, .slice kco R.m.h.length kdo, .slice keo R.m.e.length kfo, .int .i64 R.m.z, .slice kgo R.d.length kho, .slice kio R.p.length kjo, .slice kko R.b.length klo, .int .i64 R.t, .int .i64 R.q, .bool R.f, .slice kmo R.s.length kno, .slice koo R.x.length kpo]) R) := HS_w13.out.turns ht (fun k e => by omega)
 have HSb_w14 : Hid (Bk w14 w4.heap.size 36 #[.int .i64 R.m.n, .int .i64 R.m.s, .slice kao R.m.i.length kbo, .slice kco R.m.h.length kdo, .slice keo R.m.e.length kfo, .int .i64 R.m.z, .slice kgo R.d.length kho, .slice kio R.p.length kjo, .slice kko R.b.length klo, .int .i64 R.t, .int .i64 R.q, .bool R.f, .slice kmo R.s.length kno, .slice koo R.x.length kpo]) := HSb_w13.out.turns ht (fun e => by omega)
 have HG_w14 : Hid (KernF (fun k => w6.heap.size ≤ k ∧ k < w7.heap.size) w14 (.agg #[.int .i64 R.m.n, .int .i64 R.m.s, .slice kag R.m.i.length kbg, .slice kcg R.m.h.length kdg, .slice keg R.m.e.length kfg, .int .i64 R.m.z, .slice kgg R.d.length khg, .slice kig R.p.length kjg, .slice kkg R.b.length klg, .int .i64 R.t, .int .i64 R.q, .bool R.f, .slice kmg R.s.length kng, .slice kog R.x.length kpg]) R) := HG_w13.out.turns ht (fun k e => by omega)
 have HGb_w14 : Hid (Bk w14 w7.heap.size 36 #[.int .i64 R.m.n, .int .i64 R.m.s, .slice kag R.m.i.length kbg, .slice kcg R.m.h.length kdg, .slice keg R.m.e.length kfg, .int .i64 R.m.z, .slice kgg R.d.length khg, .slice kig R.p.length kjg, .slice kkg R.b.length klg, .int .i64 R.t, .int .i64 R.q, .bool R.f, .slice kmg R.s.length kng, .slice kog R.x.length kpg]) := HGb_w13.out.turns ht (fun e => by omega)
 clear HB_w13 HP_w13 HS_w13 HSb_w13 HJ_w13 HG_w13 HGb_w13
 clear ht
 have hkn : ¬ (mk + (l.length : Int) < 0) := by omega
 have g0 := HGb_w14.out.cell (i := 0) rfl
 have g1 := HGb_w14.out.cell (i := 1) rfl
 have g2 := HGb_w14.out.cell (i := 2) rfl
 have g3 := HGb_w14.out.cell (i := 3) rfl
 have g4 := HGb_w14.out.cell (i := 4) rfl
 have g5 := HGb_w14.out.cell (i := 5) rfl
 have g6 := HGb_w14.out.cell (i := 6) rfl
 have g7 := HGb_w14.out.cell (i := 7) rfl
 have g8 := HGb_w14.out.cell (i := 8) rfl
 have g9 := HGb_w14.out.cell (i := 9) rfl
 have g10 := HGb_w14.out.cell (i := 10) rfl
 have g11 := HGb_w14.out.cell (i := 11) rfl
 have g12 := HGb_w14.out.cell (i := 12) rfl
 have g13 := HGb_w14.out.cell (i := 13) rfl
 have t0 := HSb_w14.out.cell (i := 0) rfl
 have t1 := HSb_w14.out.cell (i := 1) rfl
 have t2 := HSb_w14.out.cell (i := 2) rfl
 have t3 := HSb_w14.out.cell (i := 3) rfl
 have t4 := HSb_w14.out.cell (i := 4) rfl
 have t5 := HSb_w14.out.cell (i := 5) rfl
 have t6 := HSb_w14.out.cell (i := 6) rfl
 have t7 := HSb_w14.out.cell (i := 7) rfl
 have t8 := HSb_w14.out.cell (i := 8) rfl
 have t9 := HSb_w14.out.cell (i := 9) rfl
 have t10 := HSb_w14.out.cell (i := 10) rfl
 have t11 := HSb_w14.out.cell (i := 11) rfl
 have t12 := HSb_w14.out.cell (i := 12) rfl
 have t13 := HSb_w14.out.cell (i := 13) rfl
 go_wp2_with fail
 clear g0 g1 g2 g3 g4 g5 g6 g7 g8 g9 g10 g11 g12 g13
 clear t0 t1 t2 t3 t4 t5 t6 t7 t8 t9 t10 t11 t12 t13
 refine (eqKernel_same _ _ R _ HE.out HG_w14.out.is HS_w14.out.is).mono ?_
 rintro r w15 ⟨rfl, hb⟩
 have z_w15 : w14.heap.size ≤ w15.heap.size := hb.size
 have HB_w15 : Hid (Below w.heap.size w w15) := HB_w14.out.trans (hb.mono HB_w14.out.size)
 have HP_w15 : Hid (Bk w15 w.heap.size 26 #[.int .i64 m.n, .int .i64 m.s, vi0, vh0, vs0, .int .i64 m.z]) := HP_w14.out.below hb
 have HS_w15 : Hid (KernF (fun k => w3.heap.size ≤ k ∧ k < w4.heap.size) w15 (.agg #[.int .i64 R.m.n, .int .i64 R.m.s, .slice kao R.m.i.length kbo, .slice kco R.m.h.length kdo, .slice keo R.m.e.length kfo, .int .i64 R.m.z, .slice kgo R.d.length kho, .slice kio R.p.length kjo, .slice kko R.b.length klo, .int .i64 R.t, .int .i64 R.q, .bool R.f, .slice kmo R.s.length kno, .slice koo R.x.length kpo]) R) := HS_w14.out.below hb
 have HSb_w15 : Hid (Bk w15 w4.heap.size 36 #[.int .i64 R.m.n, .int .i64 R.m.s, .slice kao R.m.i.length kbo, .slice kco R.m.h.length kdo, .slice keo R.m.e.length kfo, .int .i64 R.m.z, .slice kgo R.d.length kho, .slice kio R.p.length kjo, .slice kko R.b.length klo, .int .i64 R.t, .int .i64 R.q, .bool R.f, .slice kmo R.s.length kno, .slice koo R.x.length kpo]) := HSb_w14.out.below hb
 have HG_w15 : Hid (KernF (fun k => w6.heap.size ≤ k ∧ k < w7.heap.size) w15 (.agg #[.int .i64 R.m.n, .int .i64 R.m.s, .slice kag R.m.i.length kbg, .slice kcg R.m.h.length kdg, .slice keg R.m.e.length kfg, .int .i64 R.m.z, .slice kgg R.d.length khg, .slice kig R.p.length kjg, .slice kkg R.b.length klg, .int .i64 R.t, .int .i64 R.q, .bool R.f, .slice kmg R.s.length kng, .slice kog R.x.length kpg]) R) := HG_w14.out.below hb
 have HGb_w15 : Hid (Bk w15 w7.heap.size 36 #[.int .i64 R.m.n, .int .i64 R.m.s, .slice kag R.m.i.length kbg, .slice kcg R.m.h.length kdg, .slice keg R.m.e.length kfg, .int .i64 R.m.z, .slice kgg R.d.length khg, .slice kig R.p.length kjg, .slice kkg R.b.length klg, .int .i64 R.t, .int .i64 R.q, .bool R.f, .slice kmg R.s.length kng, .slice kog R.x.length kpg]) := HGb_w14.out.below hb
 clear HB_w14 HP_w14 HS_w14 HSb_w14 HG_w14 HGb_w14
 clear hb
 have g0 := HGb_w15.out.cell (i := 0) rfl
 have g1 := HGb_w15.out.cell (i := 1) rfl
 have g2 := HGb_w15.out.cell (i := 2) rfl
 have g3 := HGb_w15.out.cell (i := 3) rfl
 have g4 := HGb_w15.out.cell (i := 4) rfl
 have g5 := HGb_w15.out.cell (i := 5) rfl
 have g6 := HGb_w15.out.cell (i := 6) rfl
 have g7 := HGb_w15.out.cell (i := 7) rfl
 have g8 := HGb_w15.out.cell (i := 8) rfl
 have g9 := HGb_w15.out.cell (i := 9) rfl
 have g10 := HGb_w15.out.cell (i := 10) rfl
 have g11 := HGb_w15.out.cell (i := 11) rfl
 have g12 := HGb_w15.out.cell (i := 12) rfl
 have g13 := HGb_w15.out.cell (i := 13) rfl
 go_wp2_with fail
 clear g0 g1 g2 g3 g4 g5 g6 g7 g8 g9 g10 g11 g12 g13
 refine (markKernel_any HTK.out HG_w15.out (fun k e => by omega)).mono ?_
 rintro r w16 ⟨rfl, hh, ht⟩
 have z_w16 : w15.heap.size ≤ w16.heap.size := ht.size
 have HB_w16 : Hid (Below w.heap.size w w16) := HB_w15.out.trans (ht.to_below (fun k e => by omega) (by omega))
 have HP_w16 : Hid (Bk w16 w.heap.size 26 #[.int .i64 m.n, .int .i64 m.s, vi0, vh0, vs0, .int .i64 m.z]) := HP_w15.out.turns ht (fun e => by omega)
 have HS_w16 : Hid (KernF (fun k => w3.heap.size ≤ k ∧ k < w4.heap.size) w16 (.agg #[.int .i64 R.m.n, .int .i64 R.m.s, .slice kao R.m.i.length kbo, .slice kco R.m.h.length kdo, .slice keo R.m.e.length kfo, .int .i64 R.m.z, .slice kgo R.d.length kho, .slice kio R.p.length kjo, .slice kko R.b.length klo, .int .i64 R.t, .int .i64 R.q, .bool R.f, .slice kmo R.s.length kno, .slice koo R.x.length kpo]) R) := HS_w15.out.turns ht (fun k e => by omega)
 have HSb_w16 : Hid (Bk w16 w4.heap.size 36 #[.int .i64 R.m.n, .int .i64 R.m.s, .slice kao R.m.i.length kbo, .slice kco R.m.h.length kdo, .slice keo R.m.e.length kfo, .int .i64 R.m.z, .slice kgo R.d.length kho, .slice kio R.p.length kjo, .slice kko R.b.length klo, .int .i64 R.t, .int .i64 R.q, .bool R.f, .slice kmo R.s.length kno, .slice koo R.x.length kpo]) := HSb_w15.out.turns ht (fun e => by omega)
 have HGb_w16 : Hid (Bk w16 w7.heap.size 36 #[.int .i64 R.m.n, .int .i64 R.m.s, .slice kag R.m.i.length kbg, .slice kcg R.m.h.length kdg, .slice keg R.m.e.length kfg, .int .i64 R.m.z, .slice kgg R.d.length khg, .slice kig R.p.length kjg, .slice kkg R.b.length klg, .int .i64 R.t, .int .i64 R.q, .bool R.f, .slice kmg R.s.length kng, .slice kog R.x.length kpg]) := HGb_w15.out.turns ht (fun e => by omega)
 clear HB_w15 HP_w15 HS_w15 HSb_w15 HG_w15 HGb_w15
 have HH_w16 : Hid (HeldKn (fun k => w6.heap.size ≤ k ∧ k < w7.heap.size) w16 (.agg #[.int .i64 R.m.n, .int .i64 R.m.s, .slice kag R.m.i.length kbg, .slice kcg R.m.h.length kdg, .slice keg R.m.e.length kfg, .int .i64 R.m.z, .slice kgg R.d.length khg, .slice kig R.p.length kjg, .slice kkg R.b.length klg, .int .i64 R.t, .int .i64 R.q, .bool R.f, .slice kmg R.s.length kng, .slice kog R.x.length kpg]) R) := hh
 clear hh ht
 have hmn : ¬ (markKn R < 0) := by have := HMK.out; omega
 have g0 := HGb_w16.out.cell (i := 0) rfl
 have g1 := HGb_w16.out.cell (i := 1) rfl
 have g2 := HGb_w16.out.cell (i := 2) rfl
 have g3 := HGb_w16.out.cell (i := 3) rfl
 have g4 := HGb_w16.out.cell (i := 4) rfl
 have g5 := HGb_w16.out.cell (i := 5) rfl
 have g6 := HGb_w16.out.cell (i := 6) rfl
 have g7 := HGb_w16.out.cell (i := 7) rfl
 have g8 := HGb_w16.out.cell (i := 8) rfl
 have g9 := HGb_w16.out.cell (i := 9) rfl
 have g10 := HGb_w16.out.cell (i := 10) rfl
 have g11 := HGb_w16.out.cell (i := 11) rfl
 have g12 := HGb_w16.out.cell (i := 12) rfl
 have g13 := HGb_w16.out.cell (i := 13) rfl
 go_wp2_with fail
 clear g0 g1 g2 g3 g4 g5 g6 g7 g8 g9 g10 g11 g12 g13
 refine (heldKernel_any HTK.out HH_w16.out).mono ?_
 rintro r w17 ⟨rfl, hb⟩
 have z_w17 : w16.heap.size ≤ w17.heap.size := hb.size
 have HB_w17 : Hid (Below w.heap.size w w17) := HB_w16.out.trans (hb.mono HB_w16.out.size)
 have HP_w17 : Hid (Bk w17 w.heap.size 26 #[.int .i64 m.n, .int .i64 m.s, vi0, vh0, vs0, .int .i64 m.z]) := HP_w16.out.below hb
 have HS_w17 : Hid (KernF (fun k => w3.heap.size ≤ k ∧ k < w4.heap.size) w17 (.agg #[.int .i64 R.m.n, .int .i64 R.m.s, .slice kao R.m.i.length kbo, .slice kco R.m.h.length kdo, .slice keo R.m.e.length kfo, .int .i64 R.m.z, .slice kgo R.d.length kho, .slice kio R.p.length kjo, .slice kko R.b.length klo, .int .i64 R.t, .int .i64 R.q, .bool R.f, .slice kmo R.s.length kno, .slice koo R.x.length kpo]) R) := HS_w16.out.below hb
 have HSb_w17 : Hid (Bk w17 w4.heap.size 36 #[.int .i64 R.m.n, .int .i64 R.m.s, .slice kao R.m.i.length kbo, .slice kco R.m.h.length kdo, .slice keo R.m.e.length kfo, .int .i64 R.m.z, .slice kgo R.d.length kho, .slice kio R.p.length kjo, .slice kko R.b.length klo, .int .i64 R.t, .int .i64 R.q, .bool R.f, .slice kmo R.s.length kno, .slice koo R.x.length kpo]) := HSb_w16.out.below hb
 have HGb_w17 : Hid (Bk w17 w7.heap.size 36 #[.int .i64 R.m.n, .int .i64 R.m.s, .slice kag R.m.i.length kbg, .slice kcg R.m.h.length kdg, .slice keg R.m.e.length kfg, .int .i64 R.m.z, .slice kgg R.d.length khg, .slice kig R.p.length kjg, .slice kkg R.b.length klg, .int .i64 R.t, .int .i64 R.q, .bool R.f, .slice kmg R.s.length kng, .slice kog R.x.length kpg]) := HGb_w16.out.below hb
 have HH_w17 : Hid (HeldKn (fun k => w6.heap.size ≤ k ∧ k < w7.heap.size) w17 (.agg #[.int .i64 R.m.n, .int .i64 R.m.s, .slice kag R.m.i.length kbg, .slice kcg R.m.h.length kdg, .slice keg R.m.e.length kfg, .int .i64 R.m.z, .slice kgg R.d.length khg, .slice kig R.p.length kjg, .slice kkg R.b.length klg, .int .i64 R.t, .int .i64 R.q, .bool R.f, .slice kmg R.s.length kng, .slice kog R.x.length kpg]) R) := HH_w16.out.below hb
 clear HB_w16 HP_w16 HS_w16 HSb_w16 HGb_w16 HH_w16
 clear hb
 have p0 := HP_w17.out.cell (i := 0) rfl
 have p1 := HP_w17.out.cell (i := 1) rfl
 have p2 := HP_w17.out.cell (i := 2) rfl
 have p3 := HP_w17.out.cell (i := 3) rfl
 have p4 := HP_w17.out.cell (i := 4) rfl
 have p5 := HP_w17.out.cell (i := 5) rfl
 go_wp2_with fail
 clear p0 p1 p2 p3 p4 p5
 refine (toModel_any _ m _ HSM.out (HX.out.below HB_w17.out)).mono ?_
 rintro r w18 ⟨yb, rfl, hb, hr⟩
 have z_w18 : w17.heap.size ≤ w18.heap.size := hb.size
 have HB_w18 : Hid (Below w.heap.size w w18) := HB_w17.out.trans (hb.mono HB_w17.out.size)
 have HP_w18 : Hid (Bk w18 w.heap.size 26 #[.int .i64 m.n, .int .i64 m.s, vi0, vh0, vs0, .int .i64 m.z]) := HP_w17.out.below hb
 have HS_w18 : Hid (KernF (fun k => w3.heap.size ≤ k ∧ k < w4.heap.size) w18 (.agg #[.int .i64 R.m.n, .int .i64 R.m.s, .slice kao R.m.i.length kbo, .slice kco R.m.h.length kdo, .slice keo R.m.e.length kfo, .int .i64 R.m.z, .slice kgo R.d.length kho, .slice kio R.p.length kjo, .slice kko R.b.length klo, .int .i64 R.t, .int .i64 R.q, .bool R.f, .slice kmo R.s.length kno, .slice koo R.x.length kpo]) R) := HS_w17.out.below hb
 have HSb_w18 : Hid (Bk w18 w4.heap.size 36 #[.int .i64 R.m.n, .int .i64 R.m.s, .slice kao R.m.i.length kbo, .slice kco R.m.h.length kdo, .slice keo R.m.e.length kfo, .int .i64 R.m.z, .slice kgo R.d.length kho, .slice kio R.p.length kjo, .slice kko R.b.length klo, .int .i64 R.t, .int .i64 R.q, .bool R.f, .slice kmo R.s.length kno, .slice koo R.x.length kpo]) := HSb_w17.out.below hb
 have HGb_w18 : Hid (Bk w18 w7.heap.size 36 #[.int .i64 R.m.n, .int .i64 R.m.s, .slice kag R.m.i.length kbg, .slice kcg R.m.h.length kdg, .slice keg R.m.e.length kfg, .int .i64 R.m.z, .slice kgg R.d.length khg, .slice kig R.p.length kjg, .slice kkg R.b.length klg, .int .i64 R.t, .int .i64 R.q, .bool R.f, .slice kmg R.s.length kng, .slice kog R.x.length kpg]) := HGb_w17.out.below hb
 have HH_w18 : Hid (HeldKn (fun k => w6.heap.size ≤ k ∧ k < w7.heap.size) w18 (.agg #[.int .i64 R.m.n, .int .i64 R.m.s, .slice kag R.m.i.length kbg, .slice kcg R.m.h.length kdg, .slice keg R.m.e.length kfg, .int .i64 R.m.z, .slice kgg R.d.length khg, .slice kig R.p.length kjg, .slice kkg R.b.length klg, .int .i64 R.t, .int .i64 R.q, .bool R.f, .slice kmg R.s.length kng, .slice kog R.x.length kpg]) R) := HH_w17.out.below hb
 clear HB_w17 HP_w17 HS_w17 HSb_w17 HGb_w17 HH_w17
 have HA_w18 : Hid (MdF (fun k => w17.heap.size ≤ k ∧ k < w18.heap.size) w18 yb m) := hr
 clear hb hr
 go_wp2_with fail
 refine (toI_any _ l _ HL.out (HD.out.below HB_w18.out)).mono ?_
 rintro r w19 ⟨rfl, hb, hr⟩
 have yy_w19 : w18.heap.size < w19.heap.size := hr.1
 have z_w19 : w18.heap.size ≤ w19.heap.size := hb.size
 have HB_w19 : Hid (Below w.heap.size w w19) := HB_w18.out.trans (hb.mono HB_w18.out.size)
 have HP_w19 : Hid (Bk w19 w.heap.size 26 #[.int .i64 m.n, .int .i64 m.s, vi0, vh0, vs0, .int .i64 m.z]) := HP_w18.out.below hb
 have HS_w19 : Hid (KernF (fun k => w3.heap.size ≤ k ∧ k < w4.heap.size) w19 (.agg #[.int .i64 R.m.n, .int .i64 R.m.s, .slice kao R.m.i.length kbo, .slice kco R.m.h.length kdo, .slice keo R.m.e.length kfo, .int .i64 R.m.z, .slice kgo R.d.length kho, .slice kio R.p.length kjo, .slice kko R.b.length klo, .int .i64 R.t, .int .i64 R.q, .bool R.f, .slice kmo R.s.length kno, .slice koo R.x.length kpo]) R) := HS_w18.out.below hb
 have HSb_w19 : Hid (Bk w19 w4.heap.size 36 #[.int .i64 R.m.n, .int .i64 R.m.s, .slice kao R.m.i.length kbo, .slice kco R.m.h.length kdo, .slice keo R.m.e.length kfo, .int .i64 R.m.z, .slice kgo R.d.length kho, .slice kio R.p.length kjo, .slice kko R.b.length klo, .int .i64 R.t, .int .i64 R.q, .bool R.f, .slice kmo R.s.length kno, .slice koo R.x.length kpo]) := HSb_w18.out.below hb
 have HGb_w19 : Hid (Bk w19 w7.heap.size 36 #[.int .i64 R.m.n, .int .i64 R.m.s, .slice kag R.m.i.length kbg, .slice kcg R.m.h.length kdg, .slice keg R.m.e.length kfg, .int .i64 R.m.z, .slice kgg R.d.length khg, .slice kig R.p.length kjg, .slice kkg R.b.length klg, .int .i64 R.t, .int .i64 R.q, .bool R.f, .slice kmg R.s.length kng, .slice kog R.x.length kpg]) := HGb_w18.out.below hb
 have HH_w19 : Hid (HeldKn (fun k => w6.heap.size ≤ k ∧ k < w7.heap.size) w19 (.agg #[.int .i64 R.m.n, .int .i64 R.m.s, .slice kag R.m.i.length kbg, .slice kcg R.m.h.length kdg, .slice keg R.m.e.length kfg, .int .i64 R.m.z, .slice kgg R.d.length khg, .slice kig R.p.length kjg, .slice kkg R.b.length klg, .int .i64 R.t, .int .i64 R.q, .bool R.f, .slice kmg R.s.length kng, .slice kog R.x.length kpg]) R) := HH_w18.out.below hb
 have HA_w19 : Hid (MdF (fun k => w17.heap.size ≤ k ∧ k < w18.heap.size) w19 yb m) := HA_w18.out.below hb
 clear HB_w18 HP_w18 HS_w18 HSb_w18 HGb_w18 HH_w18 HA_w18
 have HI_w19 : Hid (RowF (fun k => k = w18.heap.size) w19 (sl w18.heap.size l.length) l.length 1 (intCells l)) := hr.rowF (by have := HL.out; unfold maxLen; omega)
 clear hb hr
 go_wp2_with fail
 refine (HIM.out _ _ _ HA_w19.out.isM HI_w19.out.isI).mono ?_
 rintro r w20 ⟨uk, rfl, hb, hr⟩
 obtain ⟨kak, kbk, kck, kdk, kek, kfk, kgk, khk, kik, kjk, kkk, klk, kmk, knk, kok, kpk, rfl⟩ := KernF.form hr
 have z_w20 : w19.heap.size ≤ w20.heap.size := hb.size
 have HB_w20 : Hid (Below w.heap.size w w20) := HB_w19.out.trans (hb.mono HB_w19.out.size)
 have HP_w20 : Hid (Bk w20 w.heap.size 26 #[.int .i64 m.n, .int .i64 m.s, vi0, vh0, vs0, .int .i64 m.z]) := HP_w19.out.below hb
 have HS_w20 : Hid (KernF (fun k => w3.heap.size ≤ k ∧ k < w4.heap.size) w20 (.agg #[.int .i64 R.m.n, .int .i64 R.m.s, .slice kao R.m.i.length kbo, .slice kco R.m.h.length kdo, .slice keo R.m.e.length kfo, .int .i64 R.m.z, .slice kgo R.d.length kho, .slice kio R.p.length kjo, .slice kko R.b.length klo, .int .i64 R.t, .int .i64 R.q, .bool R.f, .slice kmo R.s.length kno, .slice koo R.x.length kpo]) R) := HS_w19.out.below hb
 have HSb_w20 : Hid (Bk w20 w4.heap.size 36 #[.int .i64 R.m.n, .int .i64 R.m.s, .slice kao R.m.i.length kbo, .slice kco R.m.h.length kdo, .slice keo R.m.e.length kfo, .int .i64 R.m.z, .slice kgo R.d.length kho, .slice kio R.p.length kjo, .slice kko R.b.length klo, .int .i64 R.t, .int .i64 R.q, .bool R.f, .slice kmo R.s.length kno, .slice koo R.x.length kpo]) := HSb_w19.out.below hb
 have HGb_w20 : Hid (Bk w20 w7.heap.size 36 #[.int .i64 R.m.n, .int .i64 R.m.s, .slice kag R.m.i.length kbg, .slice kcg R.m.h.length kdg, .slice keg R.m.e.length kfg, .int .i64 R.m.z, .slice kgg R.d.length khg, .slice kig R.p.length kjg, .slice kkg R.b.length klg, .int .i64 R.t, .int .i64 R.q, .bool R.f, .slice kmg R.s.length kng, .slice kog R.x.length kpg]) := HGb_w19.out.below hb
 have HH_w20 : Hid (HeldKn (fun k => w6.heap.size ≤ k ∧ k < w7.heap.size) w20 (.agg #[.int .i64 R.m.n, .int .i64 R.m.s, .slice kag R.m.i.length kbg, .slice kcg R.m.h.length kdg, .slice keg R.m.e.length kfg, .int .i64 R.m.z, .slice kgg R.d.length khg, .slice kig R.p.length kjg, .slice kkg R.b.length klg, .int .i64 R.t, .int .i64 R.q, .bool R.f, .slice kmg R.s.length kng, .slice kog R.x.length kpg]) R) := HH_w19.out.below hb
 have HA_w20 : Hid (MdF (fun k => w17.heap.size ≤ k ∧ k < w18.heap.size) w20 yb m) := HA_w19.out.below hb
 have HI_w20 : Hid (RowF (fun k => k = w18.heap.size) w20 (sl w18.heap.size l.length) l.length 1 (intCells l)) := HI_w19.out.below hb
 clear HB_w19 HP_w19 HS_w19 HSb_w19 HGb_w19 HH_w19 HA_w19 HI_w19
 have HK_w20 : Hid (KernF (fun k => w19.heap.size ≤ k ∧ k < w20.heap.size) w20 (.agg #[.int .i64 R.m.n, .int .i64 R.m.s, .slice kak R.m.i.length kbk, .slice kck R.m.h.length kdk, .slice kek R.m.e.length kfk, .int .i64 R.m.z, .slice kgk R.d.length khk, .slice kik R.p.length kjk, .slice kkk R.b.length klk, .int .i64 R.t, .int .i64 R.q, .bool R.f, .slice kmk R.s.length knk, .slice kok R.x.length kpk]) R) := hr
 clear hb hr
 obtain ⟨Vw20, hVw20⟩ : ∃ V, w20.alloc (.cells #[.int .i64 R.m.n, .int .i64 R.m.s, .slice kak R.m.i.length kbk, .slice kck R.m.h.length kdk, .slice kek R.m.e.length kfk, .int .i64 R.m.z, .slice kgk R.d.length khk, .slice kik R.p.length kjk, .slice kkk R.b.length klk, .int .i64 R.t, .int .i64 R.q, .bool R.f, .slice kmk R.s.length knk, .slice kok R.x.length kpk] 36) = V := ⟨_, rfl⟩
 have BHKb : Bk Vw20 w20.heap.size 36 #[.int .i64 R.m.n, .int .i64 R.m.s, .slice kak R.m.i.length kbk, .slice kck R.m.h.length kdk, .slice kek R.m.e.length kfk, .int .i64 R.m.z, .slice kgk R.d.length khk, .slice kik R.p.length kjk, .slice kkk R.b.length klk, .int .i64 R.t, .int .i64 R.q, .bool R.f, .slice kmk R.s.length knk, .slice kok R.x.length kpk] := by rw [← hVw20]; exact Bk.new _ _ _
 have hb : Below w20.heap.size w20 Vw20 := by rw [← hVw20]; exact (Below.refl _ _).alloc (Nat.le_refl _) _
 have y_Vw20 : w20.heap.size < Vw20.heap.size := BHKb.lt
 have z_Vw20 : w20.heap.size ≤ Vw20.heap.size := hb.size
 have HB_Vw20 : Hid (Below w.heap.size w Vw20) := HB_w20.out.trans (hb.mono HB_w20.out.size)
 have HP_Vw20 : Hid (Bk Vw20 w.heap.size 26 #[.int .i64 m.n, .int .i64 m.s, vi0, vh0, vs0, .int .i64 m.z]) := HP_w20.out.below hb
 have HS_Vw20 : Hid (KernF (fun k => w3.heap.size ≤ k ∧ k < w4.heap.size) Vw20 (.agg #[.int .i64 R.m.n, .int .i64 R.m.s, .slice kao R.m.i.length kbo, .slice kco R.m.h.length kdo, .slice keo R.m.e.length kfo, .int .i64 R.m.z, .slice kgo R.d.length kho, .slice kio R.p.length kjo, .slice kko R.b.length klo, .int .i64 R.t, .int .i64 R.q, .bool R.f, .slice kmo R.s.length kno, .slice koo R.x.length kpo]) R) := HS_w20.out.below hb
 have HSb_Vw20 : Hid (Bk Vw20 w4.heap.size 36 #[.int .i64 R.m.n, .int .i64 R.m.s, .slice kao R.m.i.length kbo, .slice kco R.m.h.length kdo, .slice keo R.m.e.length kfo, .int .i64 R.m.z, .slice kgo R.d.length kho, .slice kio R.p.length kjo, .slice kko R.b.length klo, .int .i64 R.t, .int .i64 R.q, .bool R.f, .slice kmo R.s.length kno, .slice koo R.x.length kpo]) := HSb_w20.out.below hb
 have HGb_Vw20 : Hid (Bk Vw20 w7.heap.size 36 #[.int .i64 R.m.n, .int .i64 R.m.s, .slice kag R.m.i.length kbg, .slice kcg R.m.h.length kdg, .slice keg R.m.e.length kfg, .int .i64 R.m.z, .slice kgg R.d.length khg, .slice kig R.p.length kjg, .slice kkg R.b.length klg, .int .i64 R.t, .int .i64 R.q, .bool R.f, .slice kmg R.s.length kng, .slice kog R.x.length kpg]) := HGb_w20.out.below hb
 have HH_Vw20 : Hid (HeldKn (fun k => w6.heap.size ≤ k ∧ k < w7.heap.size) Vw20 (.agg #[.int .i64 R.m.n, .int .i64 R.m.s, .slice kag R.m.i.length kbg, .slice kcg R.m.h.length kdg, .slice keg R.m.e.length kfg, .int .i64 R.m.z, .slice kgg R.d.length khg, .slice kig R.p.length kjg, .slice kkg R.b.length klg, .int .i64 R.t, .int .i64 R.q, .bool R.f, .slice kmg R.s.length kng, .slice kog R.x.length kpg]) R) := HH_w20.out.below hb
 have HA_Vw20 : Hid (MdF (fun k => w17.heap.size ≤ k ∧ k < w18.heap.size) Vw20 yb m) := HA_w20.out.below hb
 have HI_Vw20 : Hid (RowF (fun k => k = w18.heap.size) Vw20 (sl w18.heap.size l.length) l.length 1 (intCells l)) := HI_w20.out.below hb
 have HK_Vw20 : Hid (KernF (fun k => w19.heap.size ≤ k ∧ k < w20.heap.size) Vw20 (.agg #[.int .i64 R.m.n, .int .i64 R.m.s, .slice kak R.m.i.length kbk, .slice kck R.m.h.length kdk, .slice kek R.m.e.length kfk, .int .i64 R.m.z, .slice kgk R.d.length khk, .slice kik R.p.length kjk, .slice kkk R.b.length klk, .int .i64 R.t, .int .i64 R.q, .bool R.f, .slice kmk R.s.length knk, .slice kok R.x.length kpk]) R) := HK_w20.out.below hb
 clear HB_w20 HP_w20 HS_w20 HSb_w20 HGb_w20 HH_w20 HA_w20 HI_w20 HK_w20
 clear hb
 have HKb_Vw20 : Hid (Bk Vw20 w20.heap.size 36 #[.int .i64 R.m.n, .int .i64 R.m.s, .slice kak R.m.i.length kbk, .slice kck R.m.h.length kdk, .slice kek R.m.e.length kfk, .int .i64 R.m.z, .slice kgk R.d.length khk, .slice kik R.p.length kjk, .slice kkk R.b.length klk, .int .i64 R.t, .int .i64 R.q, .bool R.f, .slice kmk R.s.length knk, .slice kok R.x.length kpk]) := BHKb
 clear BHKb
 clear HA_Vw20 HI_Vw20
 have g0 := HKb_Vw20.out.cell (i := 0) rfl
 have g1 := HKb_Vw20.out.cell (i := 1) rfl
 have g2 := HKb_Vw20.out.cell (i := 2) rfl
 have g3 := HKb_Vw20.out.cell (i := 3) rfl
 have g4 := HKb_Vw20.out.cell (i := 4) rfl
 have g5 := HKb_Vw20.out.cell (i := 5) rfl
 have g6 := HKb_Vw20.out.cell (i := 6) rfl
 have g7 := HKb_Vw20.out.cell (i := 7) rfl
 have g8 := HKb_Vw20.out.cell (i := 8) rfl
 have g9 := HKb_Vw20.out.cell (i := 9) rfl
 have g10 := HKb_Vw20.out.cell (i := 10) rfl
 have g11 := HKb_Vw20.out.cell (i := 11) rfl
 have g12 := HKb_Vw20.out.cell (i := 12) rfl
 have g13 := HKb_Vw20.out.cell (i := 13) rfl
 have t0 := HSb_Vw20.out.cell (i := 0) rfl
 have t1 := HSb_Vw20.out.cell (i := 1) rfl
 have t2 := HSb_Vw20.out.cell (i := 2) rfl
 have t3 := HSb_Vw20.out.cell (i := 3) rfl
 have t4 := HSb_Vw20.out.cell (i := 4) rfl
 have t5 := HSb_Vw20.out.cell (i := 5) rfl
 have t6 := HSb_Vw20.out.cell (i := 6) rfl
 have t7 := HSb_Vw20.out.cell (i := 7) rfl
 have t8 := HSb_Vw20.out.cell (i := 8) rfl
 have t9 := HSb_Vw20.out.cell (i := 9) rfl
 have t10 := HSb_Vw20.out.cell (i := 10) rfl
 have t11 := HSb_Vw20.out.cell (i := 11) rfl
 have t12 := HSb_Vw20.out.cell (i := 12) rfl
 have t13 := HSb_Vw20.out.cell (i := 13) rfl
 go_wp2_with fail
 clear hVw20
 clear g0 g1 g2 g3 g4 g5 g6 g7 g8 g9 g10 g11 g12 g13
 clear t0 t1 t2 t3 t4 t5 t6 t7 t8 t9 t10 t11 t12 t13
 refine (eqKernel_same _ _ R _ HE.out HK_Vw20.out.is HS_Vw20.out.is).mono ?_
 rintro r w21 ⟨rfl, hb⟩
 have z_w21 : Vw20.heap.size ≤ w21.heap.size := hb.size
 have HB_w21 : Hid (Below w.heap.size w w21) := HB_Vw20.out.trans (hb.mono HB_Vw20.out.size)
 have HP_w21 : Hid (Bk w21 w.heap.size 26 #[.int .i64 m.n, .int .i64 m.s, vi0, vh0, vs0, .int .i64 m.z]) := HP_Vw20.out.below hb
 have HS_w21 : Hid (KernF (fun k => w3.heap.size ≤ k ∧ k < w4.heap.size) w21 (.agg #[.int .i64 R.m.n, .int .i64 R.m.s, .slice kao R.m.i.length kbo, .slice kco R.m.h.length kdo, .slice keo R.m.e.length kfo, .int .i64 R.m.z, .slice kgo R.d.length kho, .slice kio R.p.length kjo, .slice kko R.b.length klo, .int .i64 R.t, .int .i64 R.q, .bool R.f, .slice kmo R.s.length kno, .slice koo R.x.length kpo]) R) := HS_Vw20.out.below hb
 have HSb_w21 : Hid (Bk w21 w4.heap.size 36 #[.int .i64 R.m.n, .int .i64 R.m.s, .slice kao R.m.i.length kbo, .slice kco R.m.h.length kdo, .slice keo R.m.e.length kfo, .int .i64 R.m.z, .slice kgo R.d.length kho, .slice kio R.p.length kjo, .slice kko R.b.length klo, .int .i64 R.t, .int .i64 R.q, .bool R.f, .slice kmo R.s.length kno, .slice koo R.x.length kpo]) := HSb_Vw20.out.below hb
 have HGb_w21 : Hid (Bk w21 w7.heap.size 36 #[.int .i64 R.m.n, .int .i64 R.m.s, .slice kag R.m.i.length kbg, .slice kcg R.m.h.length kdg, .slice keg R.m.e.length kfg, .int .i64 R.m.z, .slice kgg R.d.length khg, .slice kig R.p.length kjg, .slice kkg R.b.length klg, .int .i64 R.t, .int .i64 R.q, .bool R.f, .slice kmg R.s.length kng, .slice kog R.x.length kpg]) := HGb_Vw20.out.below hb
 have HH_w21 : Hid (HeldKn (fun k => w6.heap.size ≤ k ∧ k < w7.heap.size) w21 (.agg #[.int .i64 R.m.n, .int .i64 R.m.s, .slice kag R.m.i.length kbg, .slice kcg R.m.h.length kdg, .slice keg R.m.e.length kfg, .int .i64 R.m.z, .slice kgg R.d.length khg, .slice kig R.p.length kjg, .slice kkg R.b.length klg, .int .i64 R.t, .int .i64 R.q, .bool R.f, .slice kmg R.s.length kng, .slice kog R.x.length kpg]) R) := HH_Vw20.out.below hb
 have HK_w21 : Hid (KernF (fun k => w19.heap.size ≤ k ∧ k < w20.heap.size) w21 (.agg #[.int .i64 R.m.n, .int .i64 R.m.s, .slice kak R.m.i.length kbk, .slice kck R.m.h.length kdk, .slice kek R.m.e.length kfk, .int .i64 R.m.z, .slice kgk R.d.length khk, .slice kik R.p.length kjk, .slice kkk R.b.length klk, .int .i64 R.t, .int .i64 R.q, .bool R.f, .slice kmk R.s.length knk, .slice kok R.x.length kpk]) R) := HK_Vw20.out.below hb
 have HKb_w21 : Hid (Bk w21 w20.heap.size 36 #[.int .i64 R.m.n, .int .i64 R.m.s, .slice kak R.m.i.length kbk, .slice kck R.m.h.length kdk, .slice kek R.m.e.length kfk, .int .i64 R.m.z, .slice kgk R.d.length khk, .slice kik R.p.length kjk, .slice kkk R.b.length klk, .int .i64 R.t, .int .i64 R.q, .bool R.f, .slice kmk R.s.length knk, .slice kok R.x.length kpk]) := HKb_Vw20.out.below hb
 clear HB_Vw20 HP_Vw20 HS_Vw20 HSb_Vw20 HGb_Vw20 HH_Vw20 HK_Vw20 HKb_Vw20
 clear hb
 have g0 := HGb_w21.out.cell (i := 0) rfl
 have g1 := HGb_w21.out.cell (i := 1) rfl
 have g2 := HGb_w21.out.cell (i := 2) rfl
 have g3 := HGb_w21.out.cell (i := 3) rfl
 have g4 := HGb_w21.out.cell (i := 4) rfl
 have g5 := HGb_w21.out.cell (i := 5) rfl
 have g6 := HGb_w21.out.cell (i := 6) rfl
 have g7 := HGb_w21.out.cell (i := 7) rfl
 have g8 := HGb_w21.out.cell (i := 8) rfl
 have g9 := HGb_w21.out.cell (i := 9) rfl
 have g10 := HGb_w21.out.cell (i := 10) rfl
 have g11 := HGb_w21.out.cell (i := 11) rfl
 have g12 := HGb_w21.out.cell (i := 12) rfl
 have g13 := HGb_w21.out.cell (i := 13) rfl
 go_wp2_with fail
 clear g0 g1 g2 g3 g4 g5 g6 g7 g8 g9 g10 g11 g12 g13
 refine (heldKernel_any HTK.out HH_w21.out).mono ?_
 rintro r w22 ⟨rfl, hb⟩
 have z_w22 : w21.heap.size ≤ w22.heap.size := hb.size
 have HB_w22 : Hid (Below w.heap.size w w22) := HB_w21.out.trans (hb.mono HB_w21.out.size)
 have HP_w22 : Hid (Bk w22 w.heap.size 26 #[.int .i64 m.n, .int .i64 m.s, vi0, vh0, vs0, .int .i64 m.z]) := HP_w21.out.below hb
 have HS_w22 : Hid (KernF (fun k => w3.heap.size ≤ k ∧ k < w4.heap.size) w22 (.agg #[.int .i64 R.m.n, .int .i64 R.m.s, .slice kao R.m.i.length kbo, .slice kco R.m.h.length kdo, .slice keo R.m.e.length kfo, .int .i64 R.m.z, .slice kgo R.d.length kho, .slice kio R.p.length kjo, .slice kko R.b.length klo, .int .i64 R.t, .int .i64 R.q, .bool R.f, .slice kmo R.s.length kno, .slice koo R.x.length kpo]) R) := HS_w21.out.below hb
 have HSb_w22 : Hid (Bk w22 w4.heap.size 36 #[.int .i64 R.m.n, .int .i64 R.m.s, .slice kao R.m.i.length kbo, .slice kco R.m.h.length kdo, .slice keo R.m.e.length kfo, .int .i64 R.m.z, .slice kgo R.d.length kho, .slice kio R.p.length kjo, .slice kko R.b.length klo, .int .i64 R.t, .int .i64 R.q, .bool R.f, .slice kmo R.s.length kno, .slice koo R.x.length kpo]) := HSb_w21.out.below hb
 have HGb_w22 : Hid (Bk w22 w7.heap.size 36 #[.int .i64 R.m.n, .int .i64 R.m.s, .slice kag R.m.i.length kbg, .slice kcg R.m.h.length kdg, .slice keg R.m.e.length kfg, .int .i64 R.m.z, .slice kgg R.d.length khg, .slice kig R.p.length kjg, .slice kkg R.b.length klg, .int .i64 R.t, .int .i64 R.q, .bool R.f, .slice kmg R.s.length kng, .slice kog R.x.length kpg]) := HGb_w21.out.below hb
 have HH_w22 : Hid (HeldKn (fun k => w6.heap.size ≤ k ∧ k < w7.heap.size) w22 (.agg #[.int .i64 R.m.n, .int .i64 R.m.s, .slice kag R.m.i.length kbg, .slice kcg R.m.h.length kdg, .slice keg R.m.e.length kfg, .int .i64 R.m.z, .slice kgg R.d.length khg, .slice kig R.p.length kjg, .slice kkg R.b.length klg, .int .i64 R.t, .int .i64 R.q, .bool R.f, .slice kmg R.s.length kng, .slice kog R.x.length kpg]) R) := HH_w21.out.below hb
 have HK_w22 : Hid (KernF (fun k => w19.heap.size ≤ k ∧ k < w20.heap.size) w22 (.agg #[.int .i64 R.m.n, .int .i64 R.m.s, .slice kak R.m.i.length kbk, .slice kck R.m.h.length kdk, .slice kek R.m.e.length kfk, .int .i64 R.m.z, .slice kgk R.d.length khk, .slice kik R.p.length kjk, .slice kkk R.b.length klk, .int .i64 R.t, .int .i64 R.q, .bool R.f, .slice kmk R.s.length knk, .slice kok R.x.length kpk]) R) := HK_w21.out.below hb
 have HKb_w22 : Hid (Bk w22 w20.heap.size 36 #[.int .i64 R.m.n, .int .i64 R.m.s, .slice kak R.m.i.length kbk, .slice kck R.m.h.length kdk, .slice kek R.m.e.length kfk, .int .i64 R.m.z, .slice kgk R.d.length khk, .slice kik R.p.length kjk, .slice kkk R.b.length klk, .int .i64 R.t, .int .i64 R.q, .bool R.f, .slice kmk R.s.length knk, .slice kok R.x.length kpk]) := HKb_w21.out.below hb
 clear HB_w21 HP_w21 HS_w21 HSb_w21 HGb_w21 HH_w21 HK_w21 HKb_w21
 clear hb
 go_wp2
 go_ret
 exact ⟨rfl, HB_w22.out⟩
end Go.Proofs.YthfhibnnkpbeiaaGreat.LawExactKernelNew
