/- Both Gvt. -/
import Derived.Test.YtnlhcdchmgfipaaGreatExactKernelOkLKIl
namespace Go.Proofs.YtnlhcdchmgfipaaGreat
open Go.RowKit
noncomputable def gvtA (k : Kn) : Option Ev := if k.ok then gvtE k else none
set_option maxRecDepth 100000 in
set_option maxHeartbeats 16000000 in
theorem sGvt (x : Value) (k : Kn) (w : World) (hs : SmallK k) (h : IsKern w x k) :
    Calls Tryz.prog 18 #[x] w fun e w' => e = .returned (retE (gvtA k)) ∧ Below w.heap.size w w' := by
  have HSK : Hid (SmallK k) := hs
  obtain ⟨HSM0, hsk⟩ := hs
  have HSM : Hid (SmallM k.m) := HSM0
  obtain ⟨hdl, hpl, hbl, hsl, hxl⟩ := wt_lens hsk
  have HWP : Hid (∀ i, i < k.p.length → (paAt k.p i).wt ≤ 1048576) := wt_parts hsk
  clear hsk HSM0
  obtain ⟨ai, ci, ah, ch, ae, ce, ad, cd, ap, cp, ab, cb, au, cu, ax, cx, rfl, hm, hd, hp, hbg, hsu, hx⟩ := h.form
  have HM : Hid (IsM w (.agg #[.int .i64 k.m.n, .int .i64 k.m.s, .slice ai k.m.i.length ci, .slice ah k.m.h.length ch, .slice ae k.m.e.length ce, .int .i64 k.m.z]) k.m) := hm
  have HD : Hid (IsI w (.slice ad k.d.length cd) k.d) := hd
  have HPP : Hid (k.p = [] ∨ ∃ b off, ap = some ⟨b, off, none⟩ ∧ PasAt w b off k.p) := hp
  have HBG : Hid (k.b = [] ∨ ∃ b off, ab = some ⟨b, off, none⟩ ∧ MlsAt w b off k.b) := hbg.rows
  have HSU : Hid (k.s = [] ∨ ∃ b off, au = some ⟨b, off, none⟩ ∧ EvsAt w b off k.s) := hsu.rows
  have HXX : Hid (k.x = [] ∨ ∃ b off, ax = some ⟨b, off, none⟩ ∧ XsAt w b off k.x) := hx.rows
  have HSUI : Hid (IsEvs w (.slice au k.s.length cu) k.s) := hsu
  have HXXI : Hid (IsX w (.slice ax k.x.length cx) k.x) := hx
  have HK : Hid (IsKern w (.agg #[.int .i64 k.m.n, .int .i64 k.m.s, .slice ai k.m.i.length ci, .slice ah k.m.h.length ch, .slice ae k.m.e.length ce, .int .i64 k.m.z, .slice ad k.d.length cd, .slice ap k.p.length cp, .slice ab k.b.length cb, .int .i64 k.t, .int .i64 k.q, .bool k.f, .slice au k.s.length cu, .slice ax k.x.length cx]) k) := h
  clear hm hd hp hbg hsu hx h
  clear HM HD HPP HBG HSU HXX HSUI HXXI HSM HWP
  obtain ⟨RB, hRB⟩ : ∃ RB, RB = w.heap.size + 1 := ⟨_, rfl⟩
  obtain ⟨W0, hW0⟩ : ∃ W0, (w.alloc (.cells #[.int .i64 k.m.n, .int .i64 k.m.s, .slice ai k.m.i.length ci, .slice ah k.m.h.length ch, .slice ae k.m.e.length ce, .int .i64 k.m.z, .slice ad k.d.length cd, .slice ap k.p.length cp, .slice ab k.b.length cb, .int .i64 k.t, .int .i64 k.q, .bool k.f, .slice au k.s.length cu, .slice ax k.x.length cx] 42)).alloc (.cells #[.int .i64 0, .int .i64 0, .int .i64 0, .int .i64 0, .int .i64 0, .int .i64 0, .int .i64 0] 47) = W0 := ⟨_, rfl⟩
  have HB0 : Hid (Below w.heap.size w W0) := by rw [← hW0]; exact ((Below.refl _ w).alloc (Nat.le_refl _) _).alloc (by simp) _
  have HP0 : Hid (Bk W0 w.heap.size 42 #[.int .i64 k.m.n, .int .i64 k.m.s, .slice ai k.m.i.length ci, .slice ah k.m.h.length ch, .slice ae k.m.e.length ce, .int .i64 k.m.z, .slice ad k.d.length cd, .slice ap k.p.length cp, .slice ab k.b.length cb, .int .i64 k.t, .int .i64 k.q, .bool k.f, .slice au k.s.length cu, .slice ax k.x.length cx]) := by rw [← hW0]; exact (Bk.new w _ _).alloc _
  have HR0 : Hid (Bk W0 RB 47 (evA zEv)) := by rw [← hW0, hRB]; exact Bk.newAt (by simp) _ _
  have hRB1 : w.heap.size < RB := by omega
  have HRB : Hid (RB = w.heap.size + 1) := hRB
  clear hRB
  have m0 := HP0.out.cell (i := 0) rfl
  have m1 := HP0.out.cell (i := 1) rfl
  have m2 := HP0.out.cell (i := 2) rfl
  have m3 := HP0.out.cell (i := 3) rfl
  have m4 := HP0.out.cell (i := 4) rfl
  have m5 := HP0.out.cell (i := 5) rfl
  have m6 := HP0.out.cell (i := 6) rfl
  have m7 := HP0.out.cell (i := 7) rfl
  have m8 := HP0.out.cell (i := 8) rfl
  have m9 := HP0.out.cell (i := 9) rfl
  have m10 := HP0.out.cell (i := 10) rfl
  have m11 := HP0.out.cell (i := 11) rfl
  have m12 := HP0.out.cell (i := 12) rfl
  have m13 := HP0.out.cell (i := 13) rfl
  go_enter Tryz.func18, Tryz.ntmps18
  go_wp2_with fail
  rw [← HRB.out]
  clear m0 m1 m2 m3 m4 m5 m6 m7 m8 m9 m10 m11 m12 m13 hW0 HRB
  refine (sKernelOk _ k _ HSK.out (HK.out.under HB0.out)).mono ?_
  rintro e w1 ⟨rfl, hb1⟩
  have HB1 : Hid (Below w.heap.size w w1) := HB0.out.trans (hb1.mono HB0.out.size)
  have HP1 : Hid (Bk w1 w.heap.size 42 #[.int .i64 k.m.n, .int .i64 k.m.s, .slice ai k.m.i.length ci, .slice ah k.m.h.length ch, .slice ae k.m.e.length ce, .int .i64 k.m.z, .slice ad k.d.length cd, .slice ap k.p.length cp, .slice ab k.b.length cb, .int .i64 k.t, .int .i64 k.q, .bool k.f, .slice au k.s.length cu, .slice ax k.x.length cx]) := HP0.out.below hb1
  have HR1 : Hid (Bk w1 RB 47 (evA zEv)) := HR0.out.below hb1
  clear hb1
  cases hkk : k.ok
  case false =>
    have HA : Hid (gvtA k = none) := by show _ = _; unfold gvtA; rw [hkk]; rfl
    clear hkk
    have r0 := HR1.out.cell (i := 0) rfl
    have r1 := HR1.out.cell (i := 1) rfl
    have r2 := HR1.out.cell (i := 2) rfl
    have r3 := HR1.out.cell (i := 3) rfl
    have r4 := HR1.out.cell (i := 4) rfl
    have r5 := HR1.out.cell (i := 5) rfl
    have r6 := HR1.out.cell (i := 6) rfl
    have rf := HR1.out.free
    go_wp2
    clear r0 r1 r2 r3 r4 r5 r6 rf
    obtain ⟨V, hV⟩ : ∃ V, putEv w1 RB zEv = V := ⟨_, rfl⟩
    have ht := putEv_turns w1 RB zEv
    have hk := HR1.out.putEv zEv
    rw [hV] at ht hk
    unfold putEv at hV
    dsimp only [zEv] at hV
    rw [hV]
    have t0 : V.cell? ⟨RB, 0, none⟩ = some (.int .i64 0) := hk.cell (i := 0) rfl
    have t1 : V.cell? ⟨RB, 1, none⟩ = some (.int .i64 0) := hk.cell (i := 1) rfl
    have t2 : V.cell? ⟨RB, 2, none⟩ = some (.int .i64 0) := hk.cell (i := 2) rfl
    have t3 : V.cell? ⟨RB, 3, none⟩ = some (.int .i64 0) := hk.cell (i := 3) rfl
    have t4 : V.cell? ⟨RB, 4, none⟩ = some (.int .i64 0) := hk.cell (i := 4) rfl
    have t5 : V.cell? ⟨RB, 5, none⟩ = some (.int .i64 0) := hk.cell (i := 5) rfl
    have t6 : V.cell? ⟨RB, 6, none⟩ = some (.int .i64 0) := hk.cell (i := 6) rfl
    refine bodyPost_ret (v := .tuple #[(zEv).val, .bool false]) (by simp [results, Tryz.results18, go_sem, t0, t1, t2, t3, t4, t5, t6, Ev.val, zEv]) rfl ⟨by rw [HA.out]; rfl, HB1.out.trans (ht.to_below (fun b e => by omega) HB1.out.size)⟩
  have HKK : Hid (k.ok = true) := hkk
  have HA : Hid (gvtA k = gvtE k) := by show _ = _; unfold gvtA; rw [hkk]; rfl
  clear hkk
  have m0 := HP1.out.cell (i := 0) rfl
  have m1 := HP1.out.cell (i := 1) rfl
  have m2 := HP1.out.cell (i := 2) rfl
  have m3 := HP1.out.cell (i := 3) rfl
  have m4 := HP1.out.cell (i := 4) rfl
  have m5 := HP1.out.cell (i := 5) rfl
  have m6 := HP1.out.cell (i := 6) rfl
  have m7 := HP1.out.cell (i := 7) rfl
  have m8 := HP1.out.cell (i := 8) rfl
  have m9 := HP1.out.cell (i := 9) rfl
  have m10 := HP1.out.cell (i := 10) rfl
  have m11 := HP1.out.cell (i := 11) rfl
  have m12 := HP1.out.cell (i := 12) rfl
  have m13 := HP1.out.cell (i := 13) rfl
  go_wp2_with fail
  clear m0 m1 m2 m3 m4 m5 m6 m7 m8 m9 m10 m11 m12 m13
  refine (sGvt5 _ k _ HSK.out (HK.out.under HB1.out)).mono ?_
  rintro e w2 ⟨rfl, hb2⟩
  have HB2 : Hid (Below w.heap.size w w2) := HB1.out.trans (hb2.mono HB1.out.size)
  have HR2 : Hid (Bk w2 RB 47 (evA zEv)) := HR1.out.below hb2
  clear hb2
  generalize hgv : gvtE k = gv
  have HGV : Hid (gvtA k = gv) := by show _ = _; rw [HA.out, hgv]
  clear hgv HA
  obtain ⟨ge, gf, hgg⟩ : ∃ (ge : Ev) (gf : Bool), retE gv = .tuple #[.agg #[.int .i64 ge.t, .int .i64 ge.s, .int .i64 ge.q, .int .i64 ge.d, .int .i64 ge.k, .int .i64 ge.v, .int .i64 ge.g], .bool gf] := ⟨orZ gv, gv.isSome, rfl⟩
  have HGG : Hid (retE gv = .tuple #[.agg #[.int .i64 ge.t, .int .i64 ge.s, .int .i64 ge.q, .int .i64 ge.d, .int .i64 ge.k, .int .i64 ge.v, .int .i64 ge.g], .bool gf]) := hgg
  rw [hgg]
  clear hgg
  have r0 := HR2.out.cell (i := 0) rfl
  have r1 := HR2.out.cell (i := 1) rfl
  have r2 := HR2.out.cell (i := 2) rfl
  have r3 := HR2.out.cell (i := 3) rfl
  have r4 := HR2.out.cell (i := 4) rfl
  have r5 := HR2.out.cell (i := 5) rfl
  have r6 := HR2.out.cell (i := 6) rfl
  have rf := HR2.out.free
  go_wp2
  clear r0 r1 r2 r3 r4 r5 r6 rf
  obtain ⟨V, hV⟩ : ∃ V, putEv w2 RB ge = V := ⟨_, rfl⟩
  have ht := putEv_turns w2 RB ge
  have hk := HR2.out.putEv ge
  rw [hV] at ht hk
  unfold putEv at hV
  rw [hV]
  have t0 : V.cell? ⟨RB, 0, none⟩ = some (.int .i64 ge.t) := hk.cell (i := 0) rfl
  have t1 : V.cell? ⟨RB, 1, none⟩ = some (.int .i64 ge.s) := hk.cell (i := 1) rfl
  have t2 : V.cell? ⟨RB, 2, none⟩ = some (.int .i64 ge.q) := hk.cell (i := 2) rfl
  have t3 : V.cell? ⟨RB, 3, none⟩ = some (.int .i64 ge.d) := hk.cell (i := 3) rfl
  have t4 : V.cell? ⟨RB, 4, none⟩ = some (.int .i64 ge.k) := hk.cell (i := 4) rfl
  have t5 : V.cell? ⟨RB, 5, none⟩ = some (.int .i64 ge.v) := hk.cell (i := 5) rfl
  have t6 : V.cell? ⟨RB, 6, none⟩ = some (.int .i64 ge.g) := hk.cell (i := 6) rfl
  refine bodyPost_ret (v := .tuple #[(ge).val, .bool gf]) (by simp [results, Tryz.results18, go_sem, t0, t1, t2, t3, t4, t5, t6, Ev.val]) rfl ⟨by rw [HGV.out, HGG.out], HB2.out.trans (ht.to_below (fun b e => by omega) HB2.out.size)⟩
set_option maxRecDepth 100000 in
set_option maxHeartbeats 16000000 in
theorem iGvt (x : Value) (k : Kn) (w : World) (hs : SmallK k) (h : IsKern w x k) :
    Calls Tryz.prog 19 #[x] w fun e w' => e = .returned (retE (gvtA k)) ∧ Below w.heap.size w w' := by
  have HSK : Hid (SmallK k) := hs
  obtain ⟨HSM0, hsk⟩ := hs
  have HSM : Hid (SmallM k.m) := HSM0
  obtain ⟨hdl, hpl, hbl, hsl, hxl⟩ := wt_lens hsk
  have HWP : Hid (∀ i, i < k.p.length → (paAt k.p i).wt ≤ 1048576) := wt_parts hsk
  clear hsk HSM0
  obtain ⟨ai, ci, ah, ch, ae, ce, ad, cd, ap, cp, ab, cb, au, cu, ax, cx, rfl, hm, hd, hp, hbg, hsu, hx⟩ := h.form
  have HM : Hid (IsM w (.agg #[.int .i64 k.m.n, .int .i64 k.m.s, .slice ai k.m.i.length ci, .slice ah k.m.h.length ch, .slice ae k.m.e.length ce, .int .i64 k.m.z]) k.m) := hm
  have HD : Hid (IsI w (.slice ad k.d.length cd) k.d) := hd
  have HPP : Hid (k.p = [] ∨ ∃ b off, ap = some ⟨b, off, none⟩ ∧ PasAt w b off k.p) := hp
  have HBG : Hid (k.b = [] ∨ ∃ b off, ab = some ⟨b, off, none⟩ ∧ MlsAt w b off k.b) := hbg.rows
  have HSU : Hid (k.s = [] ∨ ∃ b off, au = some ⟨b, off, none⟩ ∧ EvsAt w b off k.s) := hsu.rows
  have HXX : Hid (k.x = [] ∨ ∃ b off, ax = some ⟨b, off, none⟩ ∧ XsAt w b off k.x) := hx.rows
  have HSUI : Hid (IsEvs w (.slice au k.s.length cu) k.s) := hsu
  have HXXI : Hid (IsX w (.slice ax k.x.length cx) k.x) := hx
  have HK : Hid (IsKern w (.agg #[.int .i64 k.m.n, .int .i64 k.m.s, .slice ai k.m.i.length ci, .slice ah k.m.h.length ch, .slice ae k.m.e.length ce, .int .i64 k.m.z, .slice ad k.d.length cd, .slice ap k.p.length cp, .slice ab k.b.length cb, .int .i64 k.t, .int .i64 k.q, .bool k.f, .slice au k.s.length cu, .slice ax k.x.length cx]) k) := h
  clear hm hd hp hbg hsu hx h
  clear HM HD HPP HBG HSU HXX HSUI HXXI HSM HWP
  obtain ⟨RB, hRB⟩ : ∃ RB, RB = w.heap.size + 1 := ⟨_, rfl⟩
  obtain ⟨W0, hW0⟩ : ∃ W0, (w.alloc (.cells #[.int .i64 k.m.n, .int .i64 k.m.s, .slice ai k.m.i.length ci, .slice ah k.m.h.length ch, .slice ae k.m.e.length ce, .int .i64 k.m.z, .slice ad k.d.length cd, .slice ap k.p.length cp, .slice ab k.b.length cb, .int .i64 k.t, .int .i64 k.q, .bool k.f, .slice au k.s.length cu, .slice ax k.x.length cx] 42)).alloc (.cells #[.int .i64 0, .int .i64 0, .int .i64 0, .int .i64 0, .int .i64 0, .int .i64 0, .int .i64 0] 47) = W0 := ⟨_, rfl⟩
  have HB0 : Hid (Below w.heap.size w W0) := by rw [← hW0]; exact ((Below.refl _ w).alloc (Nat.le_refl _) _).alloc (by simp) _
  have HP0 : Hid (Bk W0 w.heap.size 42 #[.int .i64 k.m.n, .int .i64 k.m.s, .slice ai k.m.i.length ci, .slice ah k.m.h.length ch, .slice ae k.m.e.length ce, .int .i64 k.m.z, .slice ad k.d.length cd, .slice ap k.p.length cp, .slice ab k.b.length cb, .int .i64 k.t, .int .i64 k.q, .bool k.f, .slice au k.s.length cu, .slice ax k.x.length cx]) := by rw [← hW0]; exact (Bk.new w _ _).alloc _
  have HR0 : Hid (Bk W0 RB 47 (evA zEv)) := by rw [← hW0, hRB]; exact Bk.newAt (by simp) _ _
  have hRB1 : w.heap.size < RB := by omega
  have HRB : Hid (RB = w.heap.size + 1) := hRB
  clear hRB
  have m0 := HP0.out.cell (i := 0) rfl
  have m1 := HP0.out.cell (i := 1) rfl
  have m2 := HP0.out.cell (i := 2) rfl
  have m3 := HP0.out.cell (i := 3) rfl
  have m4 := HP0.out.cell (i := 4) rfl
  have m5 := HP0.out.cell (i := 5) rfl
  have m6 := HP0.out.cell (i := 6) rfl
  have m7 := HP0.out.cell (i := 7) rfl
  have m8 := HP0.out.cell (i := 8) rfl
  have m9 := HP0.out.cell (i := 9) rfl
  have m10 := HP0.out.cell (i := 10) rfl
  have m11 := HP0.out.cell (i := 11) rfl
  have m12 := HP0.out.cell (i := 12) rfl
  have m13 := HP0.out.cell (i := 13) rfl
  go_enter Tryz.func19, Tryz.ntmps19
  go_wp2_with fail
  rw [← HRB.out]
  clear m0 m1 m2 m3 m4 m5 m6 m7 m8 m9 m10 m11 m12 m13 hW0 HRB
  refine (iKernelOk _ k _ HSK.out (HK.out.under HB0.out)).mono ?_
  rintro e w1 ⟨rfl, hb1⟩
  have HB1 : Hid (Below w.heap.size w w1) := HB0.out.trans (hb1.mono HB0.out.size)
  have HP1 : Hid (Bk w1 w.heap.size 42 #[.int .i64 k.m.n, .int .i64 k.m.s, .slice ai k.m.i.length ci, .slice ah k.m.h.length ch, .slice ae k.m.e.length ce, .int .i64 k.m.z, .slice ad k.d.length cd, .slice ap k.p.length cp, .slice ab k.b.length cb, .int .i64 k.t, .int .i64 k.q, .bool k.f, .slice au k.s.length cu, .slice ax k.x.length cx]) := HP0.out.below hb1
  have HR1 : Hid (Bk w1 RB 47 (evA zEv)) := HR0.out.below hb1
  clear hb1
  cases hkk : k.ok
  case false =>
    have HA : Hid (gvtA k = none) := by show _ = _; unfold gvtA; rw [hkk]; rfl
    clear hkk
    have r0 := HR1.out.cell (i := 0) rfl
    have r1 := HR1.out.cell (i := 1) rfl
    have r2 := HR1.out.cell (i := 2) rfl
    have r3 := HR1.out.cell (i := 3) rfl
    have r4 := HR1.out.cell (i := 4) rfl
    have r5 := HR1.out.cell (i := 5) rfl
    have r6 := HR1.out.cell (i := 6) rfl
    have rf := HR1.out.free
    go_wp2
    clear r0 r1 r2 r3 r4 r5 r6 rf
    obtain ⟨V, hV⟩ : ∃ V, putEv w1 RB zEv = V := ⟨_, rfl⟩
    have ht := putEv_turns w1 RB zEv
    have hk := HR1.out.putEv zEv
    rw [hV] at ht hk
    unfold putEv at hV
    dsimp only [zEv] at hV
    rw [hV]
    have t0 : V.cell? ⟨RB, 0, none⟩ = some (.int .i64 0) := hk.cell (i := 0) rfl
    have t1 : V.cell? ⟨RB, 1, none⟩ = some (.int .i64 0) := hk.cell (i := 1) rfl
    have t2 : V.cell? ⟨RB, 2, none⟩ = some (.int .i64 0) := hk.cell (i := 2) rfl
    have t3 : V.cell? ⟨RB, 3, none⟩ = some (.int .i64 0) := hk.cell (i := 3) rfl
    have t4 : V.cell? ⟨RB, 4, none⟩ = some (.int .i64 0) := hk.cell (i := 4) rfl
    have t5 : V.cell? ⟨RB, 5, none⟩ = some (.int .i64 0) := hk.cell (i := 5) rfl
    have t6 : V.cell? ⟨RB, 6, none⟩ = some (.int .i64 0) := hk.cell (i := 6) rfl
    refine bodyPost_ret (v := .tuple #[(zEv).val, .bool false]) (by simp [results, Tryz.results19, go_sem, t0, t1, t2, t3, t4, t5, t6, Ev.val, zEv]) rfl ⟨by rw [HA.out]; rfl, HB1.out.trans (ht.to_below (fun b e => by omega) HB1.out.size)⟩
  have HKK : Hid (k.ok = true) := hkk
  have HA : Hid (gvtA k = gvtE k) := by show _ = _; unfold gvtA; rw [hkk]; rfl
  clear hkk
  have m0 := HP1.out.cell (i := 0) rfl
  have m1 := HP1.out.cell (i := 1) rfl
  have m2 := HP1.out.cell (i := 2) rfl
  have m3 := HP1.out.cell (i := 3) rfl
  have m4 := HP1.out.cell (i := 4) rfl
  have m5 := HP1.out.cell (i := 5) rfl
  have m6 := HP1.out.cell (i := 6) rfl
  have m7 := HP1.out.cell (i := 7) rfl
  have m8 := HP1.out.cell (i := 8) rfl
  have m9 := HP1.out.cell (i := 9) rfl
  have m10 := HP1.out.cell (i := 10) rfl
  have m11 := HP1.out.cell (i := 11) rfl
  have m12 := HP1.out.cell (i := 12) rfl
  have m13 := HP1.out.cell (i := 13) rfl
  go_wp2_with fail
  clear m0 m1 m2 m3 m4 m5 m6 m7 m8 m9 m10 m11 m12 m13
  refine (iFirst8 _ k _ HSK.out (fun i hi => gvt_ok2 (kern_iff.1 HKK.out).2.2.2.2.2.1 (kern_iff.1 HKK.out).2.2.2.2.2.2.1 _ (getD_in hi)) (HK.out.under HB1.out)).mono ?_
  rintro e w2 ⟨rfl, hb2⟩
  have HB2 : Hid (Below w.heap.size w w2) := HB1.out.trans (hb2.mono HB1.out.size)
  have HR2 : Hid (Bk w2 RB 47 (evA zEv)) := HR1.out.below hb2
  clear hb2
  generalize hgv : gvtE k = gv
  have HGV : Hid (gvtA k = gv) := by show _ = _; rw [HA.out, hgv]
  clear hgv HA
  obtain ⟨ge, gf, hgg⟩ : ∃ (ge : Ev) (gf : Bool), retE gv = .tuple #[.agg #[.int .i64 ge.t, .int .i64 ge.s, .int .i64 ge.q, .int .i64 ge.d, .int .i64 ge.k, .int .i64 ge.v, .int .i64 ge.g], .bool gf] := ⟨orZ gv, gv.isSome, rfl⟩
  have HGG : Hid (retE gv = .tuple #[.agg #[.int .i64 ge.t, .int .i64 ge.s, .int .i64 ge.q, .int .i64 ge.d, .int .i64 ge.k, .int .i64 ge.v, .int .i64 ge.g], .bool gf]) := hgg
  rw [hgg]
  clear hgg
  have r0 := HR2.out.cell (i := 0) rfl
  have r1 := HR2.out.cell (i := 1) rfl
  have r2 := HR2.out.cell (i := 2) rfl
  have r3 := HR2.out.cell (i := 3) rfl
  have r4 := HR2.out.cell (i := 4) rfl
  have r5 := HR2.out.cell (i := 5) rfl
  have r6 := HR2.out.cell (i := 6) rfl
  have rf := HR2.out.free
  go_wp2
  clear r0 r1 r2 r3 r4 r5 r6 rf
  obtain ⟨V, hV⟩ : ∃ V, putEv w2 RB ge = V := ⟨_, rfl⟩
  have ht := putEv_turns w2 RB ge
  have hk := HR2.out.putEv ge
  rw [hV] at ht hk
  unfold putEv at hV
  rw [hV]
  have t0 : V.cell? ⟨RB, 0, none⟩ = some (.int .i64 ge.t) := hk.cell (i := 0) rfl
  have t1 : V.cell? ⟨RB, 1, none⟩ = some (.int .i64 ge.s) := hk.cell (i := 1) rfl
  have t2 : V.cell? ⟨RB, 2, none⟩ = some (.int .i64 ge.q) := hk.cell (i := 2) rfl
  have t3 : V.cell? ⟨RB, 3, none⟩ = some (.int .i64 ge.d) := hk.cell (i := 3) rfl
  have t4 : V.cell? ⟨RB, 4, none⟩ = some (.int .i64 ge.k) := hk.cell (i := 4) rfl
  have t5 : V.cell? ⟨RB, 5, none⟩ = some (.int .i64 ge.v) := hk.cell (i := 5) rfl
  have t6 : V.cell? ⟨RB, 6, none⟩ = some (.int .i64 ge.g) := hk.cell (i := 6) rfl
  refine bodyPost_ret (v := .tuple #[(ge).val, .bool gf]) (by simp [results, Tryz.results19, go_sem, t0, t1, t2, t3, t4, t5, t6, Ev.val]) rfl ⟨by rw [HGV.out, HGG.out], HB2.out.trans (ht.to_below (fun b e => by omega) HB2.out.size)⟩
end Go.Proofs.YtnlhcdchmgfipaaGreat
