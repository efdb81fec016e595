/- Both Held. -/
import Derived.Test.YtnlhcdchmgfipaaGreatExactKernelOkLKIl
import Derived.Test.YtnlhcdchmgfipaaGreatExactHeldLPSv
namespace Go.Proofs.YtnlhcdchmgfipaaGreat
open Go.RowKit
def sumZ (f : Nat → Int) : Nat → Int
  | 0 => 0
  | n + 1 => sumZ f n + f n
theorem sumZ_le {f : Nat → Int} : ∀ (n : Nat), (∀ i, i < n → 0 ≤ f i ∧ f i ≤ 1048576) → 0 ≤ sumZ f n ∧ sumZ f n ≤ (n : Int) * 1048576
  | 0, _ => ⟨Int.le_refl _, by simp [sumZ]⟩
  | n + 1, h => by
    obtain ⟨h1, h2⟩ := sumZ_le (f := f) n (fun i hi => h i (by omega))
    obtain ⟨h3, h4⟩ := h n (by omega)
    simp only [sumZ]
    constructor <;> omega
theorem saved_le {p : Pa} (hw : p.wt ≤ 1048576) : 0 ≤ p.saved ∧ p.saved ≤ 1048576 := by
  unfold Pa.saved
  split
  · have := kept_le hw (Nat.le_refl p.p.length)
    omega
  · omega
noncomputable def heldZ (k : Kn) : Int := if k.ok then sumZ (fun i => (paAt k.p i).saved) k.p.length else 0
set_option maxRecDepth 100000 in
set_option maxHeartbeats 16000000 in
theorem sHeldK (x : Value) (k : Kn) (w : World) (hs : SmallK k) (h : IsKern w x k) :
    Calls Tryz.prog 23 #[x] w fun e w' => e = .returned (.int .i64 (heldZ k)) ∧ Below w.heap.size w w' := by
  have HSK : Hid (SmallK k) := hs
  obtain ⟨HSM0, hsk⟩ := hs
  have HSM : Hid (SmallM k.m) := HSM0
  obtain ⟨hdl, hpl, hbl, hsl, hxl⟩ := wt_lens hsk
  have HWP : Hid (∀ i, i < k.p.length → (paAt k.p i).wt ≤ 1048576) := wt_parts hsk
  clear hsk HSM0
  obtain ⟨ai, ci, ah, ch, ae, ce, ad, cd, ap, cp, ab, cb, au, cu, ax, cx, rfl, hm, hd, hp, hbg, hsu, hx⟩ := h.form
  have HM : Hid (IsM w (.agg #[.int .i64 k.m.n, .int .i64 k.m.s, .slice ai k.m.i.length ci, .slice ah k.m.h.length ch, .slice ae k.m.e.length ce, .int .i64 k.m.z]) k.m) := hm
  have HD : Hid (IsI w (.slice ad k.d.length cd) k.d) := hd
  have HPP : Hid (k.p = [] ∨ ∃ b off, ap = some ⟨b, off, none⟩ ∧ PasAt w b off k.p) := hp
  have HBG : Hid (k.b = [] ∨ ∃ b off, ab = some ⟨b, off, none⟩ ∧ MlsAt w b off k.b) := hbg.rows
  have HSU : Hid (k.s = [] ∨ ∃ b off, au = some ⟨b, off, none⟩ ∧ EvsAt w b off k.s) := hsu.rows
  have HXX : Hid (k.x = [] ∨ ∃ b off, ax = some ⟨b, off, none⟩ ∧ XsAt w b off k.x) := hx.rows
  have HSUI : Hid (IsEvs w (.slice au k.s.length cu) k.s) := hsu
  have HXXI : Hid (IsX w (.slice ax k.x.length cx) k.x) := hx
  have HK : Hid (IsKern w (.agg #[.int .i64 k.m.n, .int .i64 k.m.s, .slice ai k.m.i.length ci, .slice ah k.m.h.length ch, .slice ae k.m.e.length ce, .int .i64 k.m.z, .slice ad k.d.length cd, .slice ap k.p.length cp, .slice ab k.b.length cb, .int .i64 k.t, .int .i64 k.q, .bool k.f, .slice au k.s.length cu, .slice ax k.x.length cx]) k) := h
  clear hm hd hp hbg hsu hx h
  obtain ⟨W0, hW0⟩ : ∃ W0, w.alloc (.cells #[.int .i64 k.m.n, .int .i64 k.m.s, .slice ai k.m.i.length ci, .slice ah k.m.h.length ch, .slice ae k.m.e.length ce, .int .i64 k.m.z, .slice ad k.d.length cd, .slice ap k.p.length cp, .slice ab k.b.length cb, .int .i64 k.t, .int .i64 k.q, .bool k.f, .slice au k.s.length cu, .slice ax k.x.length cx] 42) = W0 := ⟨_, rfl⟩
  have HB0 : Hid (Below w.heap.size w W0) := by rw [← hW0]; exact (Below.refl _ w).alloc (Nat.le_refl _) _
  have HP0 : Hid (Bk W0 w.heap.size 42 #[.int .i64 k.m.n, .int .i64 k.m.s, .slice ai k.m.i.length ci, .slice ah k.m.h.length ch, .slice ae k.m.e.length ce, .int .i64 k.m.z, .slice ad k.d.length cd, .slice ap k.p.length cp, .slice ab k.b.length cb, .int .i64 k.t, .int .i64 k.q, .bool k.f, .slice au k.s.length cu, .slice ax k.x.length cx]) := by rw [← hW0]; exact Bk.new w _ _
  have HW : Hid (w.alloc (.cells #[.int .i64 k.m.n, .int .i64 k.m.s, .slice ai k.m.i.length ci, .slice ah k.m.h.length ch, .slice ae k.m.e.length ce, .int .i64 k.m.z, .slice ad k.d.length cd, .slice ap k.p.length cp, .slice ab k.b.length cb, .int .i64 k.t, .int .i64 k.q, .bool k.f, .slice au k.s.length cu, .slice ax k.x.length cx] 42) = W0) := hW0
  have hs0 : w.heap.size < W0.heap.size := HP0.out.lt
  clear HM HD HBG HSU HXX HSUI HXXI HSM HW
  have m0 := HP0.out.cell (i := 0) rfl
  have m1 := HP0.out.cell (i := 1) rfl
  have m2 := HP0.out.cell (i := 2) rfl
  have m3 := HP0.out.cell (i := 3) rfl
  have m4 := HP0.out.cell (i := 4) rfl
  have m5 := HP0.out.cell (i := 5) rfl
  have m6 := HP0.out.cell (i := 6) rfl
  have m7 := HP0.out.cell (i := 7) rfl
  have m8 := HP0.out.cell (i := 8) rfl
  have m9 := HP0.out.cell (i := 9) rfl
  have m10 := HP0.out.cell (i := 10) rfl
  have m11 := HP0.out.cell (i := 11) rfl
  have m12 := HP0.out.cell (i := 12) rfl
  have m13 := HP0.out.cell (i := 13) rfl
  go_enter Tryz.func23, Tryz.ntmps23
  go_wp2_with fail
  clear m0 m1 m2 m3 m4 m5 m6 m7 m8 m9 m10 m11 m12 m13 hW0
  refine (sKernelOk _ k _ HSK.out (HK.out.under HB0.out)).mono ?_
  rintro e w1 ⟨rfl, hb1⟩
  have HB1 : Hid (Below w.heap.size w w1) := HB0.out.trans (hb1.mono HB0.out.size)
  have HP1 : Hid (Bk w1 w.heap.size 42 #[.int .i64 k.m.n, .int .i64 k.m.s, .slice ai k.m.i.length ci, .slice ah k.m.h.length ch, .slice ae k.m.e.length ce, .int .i64 k.m.z, .slice ad k.d.length cd, .slice ap k.p.length cp, .slice ab k.b.length cb, .int .i64 k.t, .int .i64 k.q, .bool k.f, .slice au k.s.length cu, .slice ax k.x.length cx]) := HP0.out.below hb1
  clear hb1
  cases hkk : k.ok
  case false =>
    have HA : Hid (heldZ k = 0) := by show _ = _; unfold heldZ; rw [hkk]; rfl
    clear hkk
    go_wp2
    go_ret
    exact ⟨ret_int HA.out.symm, HB1.out⟩
  have HA : Hid (heldZ k = sumZ (fun i => (paAt k.p i).saved) k.p.length) := by show _ = _; unfold heldZ; rw [hkk]; rfl
  clear hkk
  go_wp2
  go_loopw [3, 4] (fun n i wr => ∃ j : Nat, j ≤ k.p.length ∧ n = .int .i64 (sumZ (fun i => (paAt k.p i).saved) j) ∧ i = .int .i64 j ∧ Below w1.heap.size w1 wr) (fun _ i _ => k.p.length - (intOf i).toNat)
  case atStart => exact ⟨0, Nat.zero_le _, rfl, rfl, Below.refl _ _⟩
  case round =>
    obtain ⟨j, hj, rfl, rfl, hB⟩ := hrel
    have HBr : Hid (Below w.heap.size w wr) := HB1.out.trans (hB.mono HB1.out.size)
    have HBr2 : Hid (Below w1.heap.size w1 wr) := hB
    have HPr : Hid (Bk wr w.heap.size 42 #[.int .i64 k.m.n, .int .i64 k.m.s, .slice ai k.m.i.length ci, .slice ah k.m.h.length ch, .slice ae k.m.e.length ce, .int .i64 k.m.z, .slice ad k.d.length cd, .slice ap k.p.length cp, .slice ab k.b.length cb, .int .i64 k.t, .int .i64 k.q, .bool k.f, .slice au k.s.length cu, .slice ax k.x.length cx]) := HP1.out.below hB
    clear hB
    have m7 := HPr.out.cell (i := 7) rfl
    by_cases hlt : j < k.p.length
    · obtain ⟨b, off, rfl, hPA⟩ := HPP.out.resolve_left (by intro e; rw [e] at hlt; simp at hlt)
      obtain ⟨a1, c1, a4, c4, a5, c5, a6, c6, hp⟩ := hPA.2 j hlt
      have hb : b < w.heap.size := hPA.1
      have f0 := (HBr.out.cell (p := ⟨b, _, none⟩) hb).trans hp.f0
      have f1 := (HBr.out.cell (p := ⟨b, _, none⟩) hb).trans hp.f1
      have f2 := (HBr.out.cell (p := ⟨b, _, none⟩) hb).trans hp.f2
      have f3 := (HBr.out.cell (p := ⟨b, _, none⟩) hb).trans hp.f3
      have f4 := (HBr.out.cell (p := ⟨b, _, none⟩) hb).trans hp.f4
      have f5 := (HBr.out.cell (p := ⟨b, _, none⟩) hb).trans hp.f5
      have f6 := (HBr.out.cell (p := ⟨b, _, none⟩) hb).trans hp.f6
      have HIP : Hid (IsPart w (.agg #[.int .i64 (paAt k.p j).n, .slice a1 (paAt k.p j).st.r.length c1, .int .i64 (paAt k.p j).st.q, .int .i64 (paAt k.p j).st.d, .slice a4 (paAt k.p j).p.length c4, .slice a5 (paAt k.p j).t.length c5, .slice a6 (paAt k.p j).a.length c6]) (paAt k.p j)) := hp.isPart
      have HWj : Hid ((paAt k.p j).wt ≤ 1048576) := HWP.out j hlt
      obtain ⟨hz1, hz2⟩ := sumZ_le (f := fun i => (paAt k.p i).saved) j (fun i hi => saved_le (HWP.out i (by omega)))
      obtain ⟨hz3, hz4⟩ := saved_le (HWP.out j hlt)
      have HZ : Hid (sumZ (fun i => (paAt k.p i).saved) (j + 1) = sumZ (fun i => (paAt k.p i).saved) j + (paAt k.p j).saved) := (rfl : sumZ _ (j + 1) = _)
      have hki : (j : Int) < (k.p.length : Int) := by omega
      generalize sumZ (fun i => (paAt k.p i).saved) j = z at HZ hz1 hz2
      clear hPA hp
      have HBV : Hid (Below wr.heap.size wr wr) := Below.refl _ _
      go_wp2_with fail
      clear f0 f1 f2 f3 f4 f5 f6 m7
      refine (sSaved _ (paAt k.p j) _ HWj.out (HIP.out.under HBr.out)).mono ?_
      rintro e w5 ⟨rfl, hb5⟩
      have HB5 : Hid (Below wr.heap.size wr w5) := HBV.out.trans (hb5.mono HBV.out.size)
      clear hb5
      generalize (paAt k.p j).saved = sz at HZ hz3 hz4
      have hj9 : j ≤ 1048576 := by omega
      have hw1 : z + sz ≤ 9223372036854775807 := by omega
      have hw2 : -9223372036854775808 ≤ z + sz := by omega
      go_wp2
      go_roundw
      case rel => exact ⟨j + 1, by omega, by rw [HZ.out], by go_num, HBr2.out.trans (HB5.out.mono HBr2.out.size)⟩
      case measure => simp [intOf]; omega
    · obtain rfl : k.p.length = j := by omega
      have HZ : Hid (heldZ k = sumZ (fun i => (paAt k.p i).saved) k.p.length) := HA.out
      generalize sumZ (fun i => (paAt k.p i).saved) k.p.length = z at HZ
      go_wp2
      go_ret
      exact ⟨ret_int HZ.out.symm, HBr.out⟩
set_option maxRecDepth 100000 in
set_option maxHeartbeats 16000000 in
theorem iHeldK (x : Value) (k : Kn) (w : World) (hs : SmallK k) (h : IsKern w x k) :
    Calls Tryz.prog 24 #[x] w fun e w' => e = .returned (.int .i64 (heldZ k)) ∧ Below w.heap.size w w' := by
  have HSK : Hid (SmallK k) := hs
  obtain ⟨HSM0, hsk⟩ := hs
  have HSM : Hid (SmallM k.m) := HSM0
  obtain ⟨hdl, hpl, hbl, hsl, hxl⟩ := wt_lens hsk
  have HWP : Hid (∀ i, i < k.p.length → (paAt k.p i).wt ≤ 1048576) := wt_parts hsk
  clear hsk HSM0
  obtain ⟨ai, ci, ah, ch, ae, ce, ad, cd, ap, cp, ab, cb, au, cu, ax, cx, rfl, hm, hd, hp, hbg, hsu, hx⟩ := h.form
  have HM : Hid (IsM w (.agg #[.int .i64 k.m.n, .int .i64 k.m.s, .slice ai k.m.i.length ci, .slice ah k.m.h.length ch, .slice ae k.m.e.length ce, .int .i64 k.m.z]) k.m) := hm
  have HD : Hid (IsI w (.slice ad k.d.length cd) k.d) := hd
  have HPP : Hid (k.p = [] ∨ ∃ b off, ap = some ⟨b, off, none⟩ ∧ PasAt w b off k.p) := hp
  have HBG : Hid (k.b = [] ∨ ∃ b off, ab = some ⟨b, off, none⟩ ∧ MlsAt w b off k.b) := hbg.rows
  have HSU : Hid (k.s = [] ∨ ∃ b off, au = some ⟨b, off, none⟩ ∧ EvsAt w b off k.s) := hsu.rows
  have HXX : Hid (k.x = [] ∨ ∃ b off, ax = some ⟨b, off, none⟩ ∧ XsAt w b off k.x) := hx.rows
  have HSUI : Hid (IsEvs w (.slice au k.s.length cu) k.s) := hsu
  have HXXI : Hid (IsX w (.slice ax k.x.length cx) k.x) := hx
  have HK : Hid (IsKern w (.agg #[.int .i64 k.m.n, .int .i64 k.m.s, .slice ai k.m.i.length ci, .slice ah k.m.h.length ch, .slice ae k.m.e.length ce, .int .i64 k.m.z, .slice ad k.d.length cd, .slice ap k.p.length cp, .slice ab k.b.length cb, .int .i64 k.t, .int .i64 k.q, .bool k.f, .slice au k.s.length cu, .slice ax k.x.length cx]) k) := h
  clear hm hd hp hbg hsu hx h
  obtain ⟨W0, hW0⟩ : ∃ W0, w.alloc (.cells #[.int .i64 k.m.n, .int .i64 k.m.s, .slice ai k.m.i.length ci, .slice ah k.m.h.length ch, .slice ae k.m.e.length ce, .int .i64 k.m.z, .slice ad k.d.length cd, .slice ap k.p.length cp, .slice ab k.b.length cb, .int .i64 k.t, .int .i64 k.q, .bool k.f, .slice au k.s.length cu, .slice ax k.x.length cx] 42) = W0 := ⟨_, rfl⟩
  have HB0 : Hid (Below w.heap.size w W0) := by rw [← hW0]; exact (Below.refl _ w).alloc (Nat.le_refl _) _
  have HP0 : Hid (Bk W0 w.heap.size 42 #[.int .i64 k.m.n, .int .i64 k.m.s, .slice ai k.m.i.length ci, .slice ah k.m.h.length ch, .slice ae k.m.e.length ce, .int .i64 k.m.z, .slice ad k.d.length cd, .slice ap k.p.length cp, .slice ab k.b.length cb, .int .i64 k.t, .int .i64 k.q, .bool k.f, .slice au k.s.length cu, .slice ax k.x.length cx]) := by rw [← hW0]; exact Bk.new w _ _
  have HW : Hid (w.alloc (.cells #[.int .i64 k.m.n, .int .i64 k.m.s, .slice ai k.m.i.length ci, .slice ah k.m.h.length ch, .slice ae k.m.e.length ce, .int .i64 k.m.z, .slice ad k.d.length cd, .slice ap k.p.length cp, .slice ab k.b.length cb, .int .i64 k.t, .int .i64 k.q, .bool k.f, .slice au k.s.length cu, .slice ax k.x.length cx] 42) = W0) := hW0
  have hs0 : w.heap.size < W0.heap.size := HP0.out.lt
  clear HM HD HBG HSU HXX HSUI HXXI HSM HW
  have m0 := HP0.out.cell (i := 0) rfl
  have m1 := HP0.out.cell (i := 1) rfl
  have m2 := HP0.out.cell (i := 2) rfl
  have m3 := HP0.out.cell (i := 3) rfl
  have m4 := HP0.out.cell (i := 4) rfl
  have m5 := HP0.out.cell (i := 5) rfl
  have m6 := HP0.out.cell (i := 6) rfl
  have m7 := HP0.out.cell (i := 7) rfl
  have m8 := HP0.out.cell (i := 8) rfl
  have m9 := HP0.out.cell (i := 9) rfl
  have m10 := HP0.out.cell (i := 10) rfl
  have m11 := HP0.out.cell (i := 11) rfl
  have m12 := HP0.out.cell (i := 12) rfl
  have m13 := HP0.out.cell (i := 13) rfl
  go_enter Tryz.func24, Tryz.ntmps24
  go_wp2_with fail
  clear m0 m1 m2 m3 m4 m5 m6 m7 m8 m9 m10 m11 m12 m13 hW0
  refine (iKernelOk _ k _ HSK.out (HK.out.under HB0.out)).mono ?_
  rintro e w1 ⟨rfl, hb1⟩
  have HB1 : Hid (Below w.heap.size w w1) := HB0.out.trans (hb1.mono HB0.out.size)
  have HP1 : Hid (Bk w1 w.heap.size 42 #[.int .i64 k.m.n, .int .i64 k.m.s, .slice ai k.m.i.length ci, .slice ah k.m.h.length ch, .slice ae k.m.e.length ce, .int .i64 k.m.z, .slice ad k.d.length cd, .slice ap k.p.length cp, .slice ab k.b.length cb, .int .i64 k.t, .int .i64 k.q, .bool k.f, .slice au k.s.length cu, .slice ax k.x.length cx]) := HP0.out.below hb1
  clear hb1
  cases hkk : k.ok
  case false =>
    have HA : Hid (heldZ k = 0) := by show _ = _; unfold heldZ; rw [hkk]; rfl
    clear hkk
    go_wp2
    go_ret
    exact ⟨ret_int HA.out.symm, HB1.out⟩
  have HA : Hid (heldZ k = sumZ (fun i => (paAt k.p i).saved) k.p.length) := by show _ = _; unfold heldZ; rw [hkk]; rfl
  clear hkk
  have m7 := HP1.out.cell (i := 7) rfl
  go_wp2
  clear m7
  go_loopw [3, 12] (fun n i wr => ∃ j : Nat, j ≤ k.p.length ∧ n = .int .i64 (sumZ (fun i => (paAt k.p i).saved) j) ∧ i = .int .i64 j ∧ Below w1.heap.size w1 wr) (fun _ i _ => k.p.length - (intOf i).toNat)
  case atStart => exact ⟨0, Nat.zero_le _, rfl, rfl, Below.refl _ _⟩
  case round =>
    obtain ⟨j, hj, rfl, rfl, hB⟩ := hrel
    have HBr : Hid (Below w.heap.size w wr) := HB1.out.trans (hB.mono HB1.out.size)
    have HBr2 : Hid (Below w1.heap.size w1 wr) := hB
    have HPr : Hid (Bk wr w.heap.size 42 #[.int .i64 k.m.n, .int .i64 k.m.s, .slice ai k.m.i.length ci, .slice ah k.m.h.length ch, .slice ae k.m.e.length ce, .int .i64 k.m.z, .slice ad k.d.length cd, .slice ap k.p.length cp, .slice ab k.b.length cb, .int .i64 k.t, .int .i64 k.q, .bool k.f, .slice au k.s.length cu, .slice ax k.x.length cx]) := HP1.out.below hB
    clear hB
    have m7 := HPr.out.cell (i := 7) rfl
    by_cases hlt : j < k.p.length
    · obtain ⟨b, off, rfl, hPA⟩ := HPP.out.resolve_left (by intro e; rw [e] at hlt; simp at hlt)
      obtain ⟨a1, c1, a4, c4, a5, c5, a6, c6, hp⟩ := hPA.2 j hlt
      have hb : b < w.heap.size := hPA.1
      have f0 := (HBr.out.cell (p := ⟨b, _, none⟩) hb).trans hp.f0
      have f1 := (HBr.out.cell (p := ⟨b, _, none⟩) hb).trans hp.f1
      have f2 := (HBr.out.cell (p := ⟨b, _, none⟩) hb).trans hp.f2
      have f3 := (HBr.out.cell (p := ⟨b, _, none⟩) hb).trans hp.f3
      have f4 := (HBr.out.cell (p := ⟨b, _, none⟩) hb).trans hp.f4
      have f5 := (HBr.out.cell (p := ⟨b, _, none⟩) hb).trans hp.f5
      have f6 := (HBr.out.cell (p := ⟨b, _, none⟩) hb).trans hp.f6
      have HIP : Hid (IsPart w (.agg #[.int .i64 (paAt k.p j).n, .slice a1 (paAt k.p j).st.r.length c1, .int .i64 (paAt k.p j).st.q, .int .i64 (paAt k.p j).st.d, .slice a4 (paAt k.p j).p.length c4, .slice a5 (paAt k.p j).t.length c5, .slice a6 (paAt k.p j).a.length c6]) (paAt k.p j)) := hp.isPart
      have HWj : Hid ((paAt k.p j).wt ≤ 1048576) := HWP.out j hlt
      obtain ⟨hz1, hz2⟩ := sumZ_le (f := fun i => (paAt k.p i).saved) j (fun i hi => saved_le (HWP.out i (by omega)))
      obtain ⟨hz3, hz4⟩ := saved_le (HWP.out j hlt)
      have HZ : Hid (sumZ (fun i => (paAt k.p i).saved) (j + 1) = sumZ (fun i => (paAt k.p i).saved) j + (paAt k.p j).saved) := (rfl : sumZ _ (j + 1) = _)
      have hki : (j : Int) < (k.p.length : Int) := by omega
      generalize sumZ (fun i => (paAt k.p i).saved) j = z at HZ hz1 hz2
      clear hPA hp
      obtain ⟨V, hV⟩ : ∃ V, wr.alloc (.cells #[.int .i64 (paAt k.p j).n, .slice a1 (paAt k.p j).st.r.length c1, .int .i64 (paAt k.p j).st.q, .int .i64 (paAt k.p j).st.d, .slice a4 (paAt k.p j).p.length c4, .slice a5 (paAt k.p j).t.length c5, .slice a6 (paAt k.p j).a.length c6] 88) = V := ⟨_, rfl⟩
      have HBV : Hid (Below wr.heap.size wr V) := by rw [← hV]; exact (Below.refl _ wr).alloc (Nat.le_refl _) _
      have HX : Hid (Bk V wr.heap.size 88 #[.int .i64 (paAt k.p j).n, .slice a1 (paAt k.p j).st.r.length c1, .int .i64 (paAt k.p j).st.q, .int .i64 (paAt k.p j).st.d, .slice a4 (paAt k.p j).p.length c4, .slice a5 (paAt k.p j).t.length c5, .slice a6 (paAt k.p j).a.length c6]) := by rw [← hV]; exact Bk.new _ _ _
      have x0 := HX.out.cell (i := 0) rfl
      have x1 := HX.out.cell (i := 1) rfl
      have x2 := HX.out.cell (i := 2) rfl
      have x3 := HX.out.cell (i := 3) rfl
      have x4 := HX.out.cell (i := 4) rfl
      have x5 := HX.out.cell (i := 5) rfl
      have x6 := HX.out.cell (i := 6) rfl
      go_wp2_with fail
      clear x0 x1 x2 x3 x4 x5 x6 f0 f1 f2 f3 f4 f5 f6 hV m7
      refine (iSaved _ (paAt k.p j) _ HWj.out (HIP.out.under (HBr.out.trans (HBV.out.mono HBr.out.size)))).mono ?_
      rintro e w5 ⟨rfl, hb5⟩
      have HB5 : Hid (Below wr.heap.size wr w5) := HBV.out.trans (hb5.mono HBV.out.size)
      clear hb5
      generalize (paAt k.p j).saved = sz at HZ hz3 hz4
      have hj9 : j ≤ 1048576 := by omega
      have hw1 : z + sz ≤ 9223372036854775807 := by omega
      have hw2 : -9223372036854775808 ≤ z + sz := by omega
      go_wp2
      go_roundw
      case rel => exact ⟨j + 1, by omega, by rw [HZ.out], by go_num, HBr2.out.trans (HB5.out.mono HBr2.out.size)⟩
      case measure => simp [intOf]; omega
    · obtain rfl : k.p.length = j := by omega
      have HZ : Hid (heldZ k = sumZ (fun i => (paAt k.p i).saved) k.p.length) := HA.out
      generalize sumZ (fun i => (paAt k.p i).saved) k.p.length = z at HZ
      go_wp2
      go_ret
      exact ⟨ret_int HZ.out.symm, HBr.out⟩
end Go.Proofs.YtnlhcdchmgfipaaGreat
