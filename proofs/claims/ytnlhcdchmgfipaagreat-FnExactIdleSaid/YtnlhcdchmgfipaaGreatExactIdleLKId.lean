/- Both Idle. -/
import Derived.Test.YtnlhcdchmgfipaaGreatExactKernelOkLKIl
namespace Go.Proofs.YtnlhcdchmgfipaaGreat
open Go.RowKit
noncomputable def idleB (k : Kn) : Bool := k.ok && (gvtE k).isNone
set_option maxRecDepth 100000 in
set_option maxHeartbeats 16000000 in
theorem sIdle (x : Value) (k : Kn) (w : World) (hs : SmallK k) (h : IsKern w x k) :
    Calls Tryz.prog 21 #[x] w fun e w' => e = .returned (.bool (idleB k)) ∧ Below w.heap.size w w' := by
  have HSK : Hid (SmallK k) := hs
  obtain ⟨HSM0, hsk⟩ := hs
  have HSM : Hid (SmallM k.m) := HSM0
  obtain ⟨hdl, hpl, hbl, hsl, hxl⟩ := wt_lens hsk
  have HWP : Hid (∀ i, i < k.p.length → (paAt k.p i).wt ≤ 1048576) := wt_parts hsk
  clear hsk HSM0
  obtain ⟨ai, ci, ah, ch, ae, ce, ad, cd, ap, cp, ab, cb, au, cu, ax, cx, rfl, hm, hd, hp, hbg, hsu, hx⟩ := h.form
  have HM : Hid (IsM w (.agg #[.int .i64 k.m.n, .int .i64 k.m.s, .slice ai k.m.i.length ci, .slice ah k.m.h.length ch, .slice ae k.m.e.length ce, .int .i64 k.m.z]) k.m) := hm
  have HD : Hid (IsI w (.slice ad k.d.length cd) k.d) := hd
  have HPP : Hid (k.p = [] ∨ ∃ b off, ap = some ⟨b, off, none⟩ ∧ PasAt w b off k.p) := hp
  have HBG : Hid (k.b = [] ∨ ∃ b off, ab = some ⟨b, off, none⟩ ∧ MlsAt w b off k.b) := hbg.rows
  have HSU : Hid (k.s = [] ∨ ∃ b off, au = some ⟨b, off, none⟩ ∧ EvsAt w b off k.s) := hsu.rows
  have HXX : Hid (k.x = [] ∨ ∃ b off, ax = some ⟨b, off, none⟩ ∧ XsAt w b off k.x) := hx.rows
  have HSUI : Hid (IsEvs w (.slice au k.s.length cu) k.s) := hsu
  have HXXI : Hid (IsX w (.slice ax k.x.length cx) k.x) := hx
  have HK : Hid (IsKern w (.agg #[.int .i64 k.m.n, .int .i64 k.m.s, .slice ai k.m.i.length ci, .slice ah k.m.h.length ch, .slice ae k.m.e.length ce, .int .i64 k.m.z, .slice ad k.d.length cd, .slice ap k.p.length cp, .slice ab k.b.length cb, .int .i64 k.t, .int .i64 k.q, .bool k.f, .slice au k.s.length cu, .slice ax k.x.length cx]) k) := h
  clear hm hd hp hbg hsu hx h
  obtain ⟨W0, hW0⟩ : ∃ W0, w.alloc (.cells #[.int .i64 k.m.n, .int .i64 k.m.s, .slice ai k.m.i.length ci, .slice ah k.m.h.length ch, .slice ae k.m.e.length ce, .int .i64 k.m.z, .slice ad k.d.length cd, .slice ap k.p.length cp, .slice ab k.b.length cb, .int .i64 k.t, .int .i64 k.q, .bool k.f, .slice au k.s.length cu, .slice ax k.x.length cx] 42) = W0 := ⟨_, rfl⟩
  have HB0 : Hid (Below w.heap.size w W0) := by rw [← hW0]; exact (Below.refl _ w).alloc (Nat.le_refl _) _
  have HP0 : Hid (Bk W0 w.heap.size 42 #[.int .i64 k.m.n, .int .i64 k.m.s, .slice ai k.m.i.length ci, .slice ah k.m.h.length ch, .slice ae k.m.e.length ce, .int .i64 k.m.z, .slice ad k.d.length cd, .slice ap k.p.length cp, .slice ab k.b.length cb, .int .i64 k.t, .int .i64 k.q, .bool k.f, .slice au k.s.length cu, .slice ax k.x.length cx]) := by rw [← hW0]; exact Bk.new w _ _
  have HW : Hid (w.alloc (.cells #[.int .i64 k.m.n, .int .i64 k.m.s, .slice ai k.m.i.length ci, .slice ah k.m.h.length ch, .slice ae k.m.e.length ce, .int .i64 k.m.z, .slice ad k.d.length cd, .slice ap k.p.length cp, .slice ab k.b.length cb, .int .i64 k.t, .int .i64 k.q, .bool k.f, .slice au k.s.length cu, .slice ax k.x.length cx] 42) = W0) := hW0
  have hs0 : w.heap.size < W0.heap.size := HP0.out.lt
  clear HM HD HPP HBG HSU HXX HSUI HXXI HSM HWP HW
  have m0 := HP0.out.cell (i := 0) rfl
  have m1 := HP0.out.cell (i := 1) rfl
  have m2 := HP0.out.cell (i := 2) rfl
  have m3 := HP0.out.cell (i := 3) rfl
  have m4 := HP0.out.cell (i := 4) rfl
  have m5 := HP0.out.cell (i := 5) rfl
  have m6 := HP0.out.cell (i := 6) rfl
  have m7 := HP0.out.cell (i := 7) rfl
  have m8 := HP0.out.cell (i := 8) rfl
  have m9 := HP0.out.cell (i := 9) rfl
  have m10 := HP0.out.cell (i := 10) rfl
  have m11 := HP0.out.cell (i := 11) rfl
  have m12 := HP0.out.cell (i := 12) rfl
  have m13 := HP0.out.cell (i := 13) rfl
  go_enter Tryz.func21, Tryz.ntmps21
  go_wp2_with fail
  clear m0 m1 m2 m3 m4 m5 m6 m7 m8 m9 m10 m11 m12 m13 hW0
  refine (sKernelOk _ k _ HSK.out (HK.out.under HB0.out)).mono ?_
  rintro e w1 ⟨rfl, hb1⟩
  have HB1 : Hid (Below w.heap.size w w1) := HB0.out.trans (hb1.mono HB0.out.size)
  have HP1 : Hid (Bk w1 w.heap.size 42 #[.int .i64 k.m.n, .int .i64 k.m.s, .slice ai k.m.i.length ci, .slice ah k.m.h.length ch, .slice ae k.m.e.length ce, .int .i64 k.m.z, .slice ad k.d.length cd, .slice ap k.p.length cp, .slice ab k.b.length cb, .int .i64 k.t, .int .i64 k.q, .bool k.f, .slice au k.s.length cu, .slice ax k.x.length cx]) := HP0.out.below hb1
  clear hb1
  cases hkk : k.ok
  case false =>
    have HA : Hid (idleB k = false) := by show _ = _; unfold idleB; rw [hkk]; rfl
    clear hkk
    go_wp2
    go_ret
    exact ⟨ret_bool HA.out.symm, HB1.out⟩
  have HKK : Hid (k.ok = true) := hkk
  clear hkk
  have m0 := HP1.out.cell (i := 0) rfl
  have m1 := HP1.out.cell (i := 1) rfl
  have m2 := HP1.out.cell (i := 2) rfl
  have m3 := HP1.out.cell (i := 3) rfl
  have m4 := HP1.out.cell (i := 4) rfl
  have m5 := HP1.out.cell (i := 5) rfl
  have m6 := HP1.out.cell (i := 6) rfl
  have m7 := HP1.out.cell (i := 7) rfl
  have m8 := HP1.out.cell (i := 8) rfl
  have m9 := HP1.out.cell (i := 9) rfl
  have m10 := HP1.out.cell (i := 10) rfl
  have m11 := HP1.out.cell (i := 11) rfl
  have m12 := HP1.out.cell (i := 12) rfl
  have m13 := HP1.out.cell (i := 13) rfl
  go_wp2_with fail
  clear m0 m1 m2 m3 m4 m5 m6 m7 m8 m9 m10 m11 m12 m13
  refine (sGvt5 _ k _ HSK.out (HK.out.under HB1.out)).mono ?_
  rintro e w2 ⟨rfl, hb2⟩
  have HB2 : Hid (Below w.heap.size w w2) := HB1.out.trans (hb2.mono HB1.out.size)
  clear hb2
  obtain ⟨ge, gf, hgf, hgg⟩ : ∃ (ge : Ev) (gf : Bool), gf = (gvtE k).isSome ∧ retE (gvtE k) = .tuple #[.agg #[.int .i64 ge.t, .int .i64 ge.s, .int .i64 ge.q, .int .i64 ge.d, .int .i64 ge.k, .int .i64 ge.v, .int .i64 ge.g], .bool gf] := ⟨orZ (gvtE k), (gvtE k).isSome, rfl, rfl⟩
  rw [hgg]
  have HGF : Hid (idleB k = !gf) := by show _ = _; unfold idleB; rw [HKK.out, hgf]; cases gvtE k <;> rfl
  clear hgg hgf
  go_wp2
  all_goals
    go_ret
    first | exact ⟨ret_bool HGF.out.symm, HB2.out.alloc HB2.out.size _⟩ | exact ⟨ret_bool (by rw [HGF.out]; simp), HB2.out.alloc HB2.out.size _⟩
set_option maxRecDepth 100000 in
set_option maxHeartbeats 16000000 in
theorem iIdle (x : Value) (k : Kn) (w : World) (hs : SmallK k) (h : IsKern w x k) :
    Calls Tryz.prog 22 #[x] w fun e w' => e = .returned (.bool (idleB k)) ∧ Below w.heap.size w w' := by
  have HSK : Hid (SmallK k) := hs
  obtain ⟨HSM0, hsk⟩ := hs
  have HSM : Hid (SmallM k.m) := HSM0
  obtain ⟨hdl, hpl, hbl, hsl, hxl⟩ := wt_lens hsk
  have HWP : Hid (∀ i, i < k.p.length → (paAt k.p i).wt ≤ 1048576) := wt_parts hsk
  clear hsk HSM0
  obtain ⟨ai, ci, ah, ch, ae, ce, ad, cd, ap, cp, ab, cb, au, cu, ax, cx, rfl, hm, hd, hp, hbg, hsu, hx⟩ := h.form
  have HM : Hid (IsM w (.agg #[.int .i64 k.m.n, .int .i64 k.m.s, .slice ai k.m.i.length ci, .slice ah k.m.h.length ch, .slice ae k.m.e.length ce, .int .i64 k.m.z]) k.m) := hm
  have HD : Hid (IsI w (.slice ad k.d.length cd) k.d) := hd
  have HPP : Hid (k.p = [] ∨ ∃ b off, ap = some ⟨b, off, none⟩ ∧ PasAt w b off k.p) := hp
  have HBG : Hid (k.b = [] ∨ ∃ b off, ab = some ⟨b, off, none⟩ ∧ MlsAt w b off k.b) := hbg.rows
  have HSU : Hid (k.s = [] ∨ ∃ b off, au = some ⟨b, off, none⟩ ∧ EvsAt w b off k.s) := hsu.rows
  have HXX : Hid (k.x = [] ∨ ∃ b off, ax = some ⟨b, off, none⟩ ∧ XsAt w b off k.x) := hx.rows
  have HSUI : Hid (IsEvs w (.slice au k.s.length cu) k.s) := hsu
  have HXXI : Hid (IsX w (.slice ax k.x.length cx) k.x) := hx
  have HK : Hid (IsKern w (.agg #[.int .i64 k.m.n, .int .i64 k.m.s, .slice ai k.m.i.length ci, .slice ah k.m.h.length ch, .slice ae k.m.e.length ce, .int .i64 k.m.z, .slice ad k.d.length cd, .slice ap k.p.length cp, .slice ab k.b.length cb, .int .i64 k.t, .int .i64 k.q, .bool k.f, .slice au k.s.length cu, .slice ax k.x.length cx]) k) := h
  clear hm hd hp hbg hsu hx h
  obtain ⟨W0, hW0⟩ : ∃ W0, w.alloc (.cells #[.int .i64 k.m.n, .int .i64 k.m.s, .slice ai k.m.i.length ci, .slice ah k.m.h.length ch, .slice ae k.m.e.length ce, .int .i64 k.m.z, .slice ad k.d.length cd, .slice ap k.p.length cp, .slice ab k.b.length cb, .int .i64 k.t, .int .i64 k.q, .bool k.f, .slice au k.s.length cu, .slice ax k.x.length cx] 42) = W0 := ⟨_, rfl⟩
  have HB0 : Hid (Below w.heap.size w W0) := by rw [← hW0]; exact (Below.refl _ w).alloc (Nat.le_refl _) _
  have HP0 : Hid (Bk W0 w.heap.size 42 #[.int .i64 k.m.n, .int .i64 k.m.s, .slice ai k.m.i.length ci, .slice ah k.m.h.length ch, .slice ae k.m.e.length ce, .int .i64 k.m.z, .slice ad k.d.length cd, .slice ap k.p.length cp, .slice ab k.b.length cb, .int .i64 k.t, .int .i64 k.q, .bool k.f, .slice au k.s.length cu, .slice ax k.x.length cx]) := by rw [← hW0]; exact Bk.new w _ _
  have HW : Hid (w.alloc (.cells #[.int .i64 k.m.n, .int .i64 k.m.s, .slice ai k.m.i.length ci, .slice ah k.m.h.length ch, .slice ae k.m.e.length ce, .int .i64 k.m.z, .slice ad k.d.length cd, .slice ap k.p.length cp, .slice ab k.b.length cb, .int .i64 k.t, .int .i64 k.q, .bool k.f, .slice au k.s.length cu, .slice ax k.x.length cx] 42) = W0) := hW0
  have hs0 : w.heap.size < W0.heap.size := HP0.out.lt
  clear HM HD HPP HBG HSU HXX HSUI HXXI HSM HWP HW
  have m0 := HP0.out.cell (i := 0) rfl
  have m1 := HP0.out.cell (i := 1) rfl
  have m2 := HP0.out.cell (i := 2) rfl
  have m3 := HP0.out.cell (i := 3) rfl
  have m4 := HP0.out.cell (i := 4) rfl
  have m5 := HP0.out.cell (i := 5) rfl
  have m6 := HP0.out.cell (i := 6) rfl
  have m7 := HP0.out.cell (i := 7) rfl
  have m8 := HP0.out.cell (i := 8) rfl
  have m9 := HP0.out.cell (i := 9) rfl
  have m10 := HP0.out.cell (i := 10) rfl
  have m11 := HP0.out.cell (i := 11) rfl
  have m12 := HP0.out.cell (i := 12) rfl
  have m13 := HP0.out.cell (i := 13) rfl
  go_enter Tryz.func22, Tryz.ntmps22
  go_wp2_with fail
  clear m0 m1 m2 m3 m4 m5 m6 m7 m8 m9 m10 m11 m12 m13 hW0
  refine (iKernelOk _ k _ HSK.out (HK.out.under HB0.out)).mono ?_
  rintro e w1 ⟨rfl, hb1⟩
  have HB1 : Hid (Below w.heap.size w w1) := HB0.out.trans (hb1.mono HB0.out.size)
  have HP1 : Hid (Bk w1 w.heap.size 42 #[.int .i64 k.m.n, .int .i64 k.m.s, .slice ai k.m.i.length ci, .slice ah k.m.h.length ch, .slice ae k.m.e.length ce, .int .i64 k.m.z, .slice ad k.d.length cd, .slice ap k.p.length cp, .slice ab k.b.length cb, .int .i64 k.t, .int .i64 k.q, .bool k.f, .slice au k.s.length cu, .slice ax k.x.length cx]) := HP0.out.below hb1
  clear hb1
  cases hkk : k.ok
  case false =>
    have HA : Hid (idleB k = false) := by show _ = _; unfold idleB; rw [hkk]; rfl
    clear hkk
    go_wp2
    go_ret
    exact ⟨ret_bool HA.out.symm, HB1.out⟩
  have HKK : Hid (k.ok = true) := hkk
  clear hkk
  have m0 := HP1.out.cell (i := 0) rfl
  have m1 := HP1.out.cell (i := 1) rfl
  have m2 := HP1.out.cell (i := 2) rfl
  have m3 := HP1.out.cell (i := 3) rfl
  have m4 := HP1.out.cell (i := 4) rfl
  have m5 := HP1.out.cell (i := 5) rfl
  have m6 := HP1.out.cell (i := 6) rfl
  have m7 := HP1.out.cell (i := 7) rfl
  have m8 := HP1.out.cell (i := 8) rfl
  have m9 := HP1.out.cell (i := 9) rfl
  have m10 := HP1.out.cell (i := 10) rfl
  have m11 := HP1.out.cell (i := 11) rfl
  have m12 := HP1.out.cell (i := 12) rfl
  have m13 := HP1.out.cell (i := 13) rfl
  go_wp2_with fail
  clear m0 m1 m2 m3 m4 m5 m6 m7 m8 m9 m10 m11 m12 m13
  refine (iFirst8 _ k _ HSK.out (fun i hi => gvt_ok2 (kern_iff.1 HKK.out).2.2.2.2.2.1 (kern_iff.1 HKK.out).2.2.2.2.2.2.1 _ (getD_in hi)) (HK.out.under HB1.out)).mono ?_
  rintro e w2 ⟨rfl, hb2⟩
  have HB2 : Hid (Below w.heap.size w w2) := HB1.out.trans (hb2.mono HB1.out.size)
  clear hb2
  obtain ⟨ge, gf, hgf, hgg⟩ : ∃ (ge : Ev) (gf : Bool), gf = (gvtE k).isSome ∧ retE (gvtE k) = .tuple #[.agg #[.int .i64 ge.t, .int .i64 ge.s, .int .i64 ge.q, .int .i64 ge.d, .int .i64 ge.k, .int .i64 ge.v, .int .i64 ge.g], .bool gf] := ⟨orZ (gvtE k), (gvtE k).isSome, rfl, rfl⟩
  rw [hgg]
  have HGF : Hid (idleB k = !gf) := by show _ = _; unfold idleB; rw [HKK.out, hgf]; cases gvtE k <;> rfl
  clear hgg hgf
  go_wp2
  all_goals
    go_ret
    first | exact ⟨ret_bool HGF.out.symm, HB2.out.alloc HB2.out.size _⟩ | exact ⟨ret_bool (by rw [HGF.out]; simp), HB2.out.alloc HB2.out.size _⟩
end Go.Proofs.YtnlhcdchmgfipaaGreat
