/- TPtA, TPp, KMl, XSz, KKr -/
import Derived.Test.YtnlhcdchmgfipaaGreatExactKernelOkG05
import Derived.Deep.RegionHeld3
import Derived.Test.YtnlhcdchmgfipaaGreatExactKernelOkG04
/- szPart, eqPart. -/
namespace Go.Proofs.YtnlhcdchmgfipaaGreat
open Go.RowKit
set_option maxHeartbeats 4000000 in
theorem szPart_any (x : Value) (p : Pa) (left : Int) (w : World) (h0 : 0 ≤ left) (h1 : left ≤ 1048576) (h : IsPart w x p) :
    Calls Tryz.prog 108 #[x, .int .i64 left] w fun e w' => (∃ r, e = .returned (.int .i64 r) ∧ SzR p.wt left r) ∧ Below w.heap.size w w' := by
  obtain ⟨u1, u4, u5, u6, rfl, h1, h4, h5, h6⟩ := h
  have H1 : Hid (IsD w u1 (intsD p.st.r)) := h1
  have H4 : Hid (IsD w u4 (pastsD p.p)) := h4
  have H5 : Hid (IsD w u5 (evsD p.t)) := h5
  have H6 : Hid (IsD w u6 (intsD p.a)) := h6
  clear h1 h4 h5 h6
  obtain ⟨W0, hW0⟩ : ∃ W0, w.alloc (.cells #[.int .i64 p.n, u1, .int .i64 p.st.q, .int .i64 p.st.d, u4, u5, u6] 135) = W0 := ⟨_, rfl⟩
  have HB0 : Hid (Below w.heap.size w W0) := by rw [← hW0]; exact (Below.refl _ w).alloc (Nat.le_refl _) _
  have HP0 : Hid (Bk W0 w.heap.size 135 #[.int .i64 p.n, u1, .int .i64 p.st.q, .int .i64 p.st.d, u4, u5, u6]) := by rw [← hW0]; exact Bk.new w _ _
  have HW : Hid (w.alloc (.cells #[.int .i64 p.n, u1, .int .i64 p.st.q, .int .i64 p.st.d, u4, u5, u6] 135) = W0) := hW0
  clear hW0
  go_enter Tryz.func108, Tryz.ntmps108
  have p1 := HP0.out.cell (i := 1) rfl
  have p2 := HP0.out.cell (i := 2) rfl
  have p3 := HP0.out.cell (i := 3) rfl
  go_wp2_with fail
  rw [HW.out]
  clear HW
  clear p1 p2 p3
  refine (szState_R _ p.st _ _ h0 h1 ⟨_, rfl, (H1.out.under HB0.out).isI⟩).mono ?_
  rintro e w1 ⟨⟨r1, rfl, hr⟩, hb⟩
  have HB1 : Hid (Below w.heap.size w w1) := HB0.out.trans (hb.mono HB0.out.size)
  have HP1 : Hid (Bk w1 w.heap.size 135 #[.int .i64 p.n, u1, .int .i64 p.st.q, .int .i64 p.st.d, u4, u5, u6]) := HP0.out.below hb
  clear hb
  rcases hr with rfl | ⟨r10, hr⟩
  · go_wp2
    go_ret
    exact ⟨⟨_, rfl, .inl rfl⟩, HB1.out⟩
  have r11 : r1 ≤ 1048576 := by omega
  have r12 : ¬ (r1 < 0) := by omega
  have HR1 : Hid (r1 + ((intsD p.st.r).wt : Int) = left) := hr
  clear hr
  have p4 := HP1.out.cell (i := 4) rfl
  go_wp2_with fail
  clear p4
  refine (sz_pasts _ p.p _ _ r10 r11 (H4.out.under HB1.out)).mono ?_
  rintro e w2 ⟨⟨r2, rfl, hr⟩, hb⟩
  have HB2 : Hid (Below w.heap.size w w2) := HB1.out.trans (hb.mono HB1.out.size)
  have HP2 : Hid (Bk w2 w.heap.size 135 #[.int .i64 p.n, u1, .int .i64 p.st.q, .int .i64 p.st.d, u4, u5, u6]) := HP1.out.below hb
  clear hb
  rcases hr with rfl | ⟨r20, hr⟩
  · go_wp2
    go_ret
    exact ⟨⟨_, rfl, .inl rfl⟩, HB2.out⟩
  have r21 : r2 ≤ 1048576 := by omega
  have r22 : ¬ (r2 < 0) := by omega
  have HR2 : Hid (r2 + ((pastsD p.p).wt : Int) = r1) := hr
  clear hr
  have p5 := HP2.out.cell (i := 5) rfl
  go_wp2_with fail
  clear p5
  refine (sz_evs _ p.t _ _ r20 r21 (H5.out.under HB2.out)).mono ?_
  rintro e w3 ⟨⟨r3, rfl, hr⟩, hb⟩
  have HB3 : Hid (Below w.heap.size w w3) := HB2.out.trans (hb.mono HB2.out.size)
  have HP3 : Hid (Bk w3 w.heap.size 135 #[.int .i64 p.n, u1, .int .i64 p.st.q, .int .i64 p.st.d, u4, u5, u6]) := HP2.out.below hb
  clear hb
  rcases hr with rfl | ⟨r30, hr⟩
  · go_wp2
    go_ret
    exact ⟨⟨_, rfl, .inl rfl⟩, HB3.out⟩
  have r31 : r3 ≤ 1048576 := by omega
  have r32 : ¬ (r3 < 0) := by omega
  have HR3 : Hid (r3 + ((evsD p.t).wt : Int) = r2) := hr
  clear hr
  have p6 := HP3.out.cell (i := 6) rfl
  go_wp2_with fail
  clear p6
  refine (sz_ints _ p.a _ _ r30 r31 (H6.out.under HB3.out)).mono ?_
  rintro e w4 ⟨⟨r4, rfl, hr⟩, hb⟩
  have HB4 : Hid (Below w.heap.size w w4) := HB3.out.trans (hb.mono HB3.out.size)
  have HP4 : Hid (Bk w4 w.heap.size 135 #[.int .i64 p.n, u1, .int .i64 p.st.q, .int .i64 p.st.d, u4, u5, u6]) := HP3.out.below hb
  clear hb
  rcases hr with rfl | ⟨r40, hr⟩
  · go_wp2
    go_ret
    exact ⟨⟨_, rfl, .inl rfl⟩, HB4.out⟩
  have r41 : r4 ≤ 1048576 := by omega
  have r42 : ¬ (r4 < 0) := by omega
  have HR4 : Hid (r4 + ((intsD p.a).wt : Int) = r3) := hr
  clear hr
  go_wp2
  go_ret
  refine ⟨⟨_, rfl, .inr ⟨r40, ?_⟩⟩, HB4.out⟩
  have := HR1.out
  have := HR2.out
  have := HR3.out
  have := HR4.out
  unfold Pa.wt
  omega
set_option maxHeartbeats 4000000 in
theorem eqPart_same (x y : Value) (p : Pa) (w : World) (hw : p.wt ≤ 1048576) (hx : IsPart w x p) (hy : IsPart w y p) :
    Calls Tryz.prog 136 #[x, y] w fun e w' => e = .returned (.bool true) ∧ Below w.heap.size w w' := by
  obtain ⟨u1, u4, u5, u6, rfl, h1, h4, h5, h6⟩ := hx
  obtain ⟨v1, v4, v5, v6, rfl, k1, k4, k5, k6⟩ := hy
  have H1 : Hid (IsD w u1 (intsD p.st.r) ∧ IsD w v1 (intsD p.st.r)) := ⟨h1, k1⟩
  have H4 : Hid (IsD w u4 (pastsD p.p) ∧ IsD w v4 (pastsD p.p)) := ⟨h4, k4⟩
  have H5 : Hid (IsD w u5 (evsD p.t) ∧ IsD w v5 (evsD p.t)) := ⟨h5, k5⟩
  have H6 : Hid (IsD w u6 (intsD p.a) ∧ IsD w v6 (intsD p.a)) := ⟨h6, k6⟩
  have HS : Hid (p.wt ≤ 1048576) := hw
  clear hw h1 k1 h4 k4 h5 k5 h6 k6
  obtain ⟨W0, hW0⟩ : ∃ W0, (w.alloc (.cells #[.int .i64 p.n, u1, .int .i64 p.st.q, .int .i64 p.st.d, u4, u5, u6] 88)).alloc (.cells #[.int .i64 p.n, v1, .int .i64 p.st.q, .int .i64 p.st.d, v4, v5, v6] 88) = W0 := ⟨_, rfl⟩
  have HB0 : Hid (Below w.heap.size w W0) := by rw [← hW0]; exact ((Below.refl _ w).alloc (Nat.le_refl _) _).alloc (by simp) _
  have HP0 : Hid (Bk W0 w.heap.size 88 #[.int .i64 p.n, u1, .int .i64 p.st.q, .int .i64 p.st.d, u4, u5, u6]) := by rw [← hW0]; exact (Bk.new w _ _).alloc _
  have HQ0 : Hid (Bk W0 (w.heap.size + 1) 88 #[.int .i64 p.n, v1, .int .i64 p.st.q, .int .i64 p.st.d, v4, v5, v6]) := by rw [← hW0]; exact Bk.newAt (by simp) _ _
  have HW : Hid ((w.alloc (.cells #[.int .i64 p.n, u1, .int .i64 p.st.q, .int .i64 p.st.d, u4, u5, u6] 88)).alloc (.cells #[.int .i64 p.n, v1, .int .i64 p.st.q, .int .i64 p.st.d, v4, v5, v6] 88) = W0) := hW0
  clear hW0
  go_enter Tryz.func136, Tryz.ntmps136
  have p0 := HP0.out.cell (i := 0) rfl
  have q0 := HQ0.out.cell (i := 0) rfl
  have p1 := HP0.out.cell (i := 1) rfl
  have q1 := HQ0.out.cell (i := 1) rfl
  have p2 := HP0.out.cell (i := 2) rfl
  have q2 := HQ0.out.cell (i := 2) rfl
  have p3 := HP0.out.cell (i := 3) rfl
  have q3 := HQ0.out.cell (i := 3) rfl
  go_wp2_with fail
  rw [HW.out]
  clear HW
  clear p0 q0 p1 q1 p2 q2 p3 q3
  refine (eqState_same _ _ p.st _ (by have := HS.out; unfold Pa.wt at this; simp only [evs_wt, ints_wt] at this; omega) ⟨_, rfl, (H1.out.1.under HB0.out).isI⟩ ⟨_, rfl, (H1.out.2.under HB0.out).isI⟩).mono ?_
  rintro e w1 ⟨rfl, hb⟩
  have HB1 : Hid (Below w.heap.size w w1) := HB0.out.trans (hb.mono HB0.out.size)
  have HP1 : Hid (Bk w1 w.heap.size 88 #[.int .i64 p.n, u1, .int .i64 p.st.q, .int .i64 p.st.d, u4, u5, u6]) := HP0.out.below hb
  have HQ1 : Hid (Bk w1 (w.heap.size + 1) 88 #[.int .i64 p.n, v1, .int .i64 p.st.q, .int .i64 p.st.d, v4, v5, v6]) := HQ0.out.below hb
  clear hb
  have p4 := HP1.out.cell (i := 4) rfl
  have q4 := HQ1.out.cell (i := 4) rfl
  go_wp2_with fail
  clear p4 q4
  refine (eq_pasts _ _ p.p _ (by have := HS.out; unfold Pa.wt at this; simp only [evs_wt, ints_wt] at this; omega) (H4.out.1.under HB1.out) (H4.out.2.under HB1.out)).mono ?_
  rintro e w2 ⟨rfl, hb⟩
  have HB2 : Hid (Below w.heap.size w w2) := HB1.out.trans (hb.mono HB1.out.size)
  have HP2 : Hid (Bk w2 w.heap.size 88 #[.int .i64 p.n, u1, .int .i64 p.st.q, .int .i64 p.st.d, u4, u5, u6]) := HP1.out.below hb
  have HQ2 : Hid (Bk w2 (w.heap.size + 1) 88 #[.int .i64 p.n, v1, .int .i64 p.st.q, .int .i64 p.st.d, v4, v5, v6]) := HQ1.out.below hb
  clear hb
  have p5 := HP2.out.cell (i := 5) rfl
  have q5 := HQ2.out.cell (i := 5) rfl
  go_wp2_with fail
  clear p5 q5
  refine (eq_evs _ _ p.t _ (by have := HS.out; unfold Pa.wt at this; simp only [evs_wt, ints_wt] at this; omega) (H5.out.1.under HB2.out) (H5.out.2.under HB2.out)).mono ?_
  rintro e w3 ⟨rfl, hb⟩
  have HB3 : Hid (Below w.heap.size w w3) := HB2.out.trans (hb.mono HB2.out.size)
  have HP3 : Hid (Bk w3 w.heap.size 88 #[.int .i64 p.n, u1, .int .i64 p.st.q, .int .i64 p.st.d, u4, u5, u6]) := HP2.out.below hb
  have HQ3 : Hid (Bk w3 (w.heap.size + 1) 88 #[.int .i64 p.n, v1, .int .i64 p.st.q, .int .i64 p.st.d, v4, v5, v6]) := HQ2.out.below hb
  clear hb
  have p6 := HP3.out.cell (i := 6) rfl
  have q6 := HQ3.out.cell (i := 6) rfl
  go_wp2_with fail
  clear p6 q6
  refine (eq_ints _ _ p.a _ (by have := HS.out; unfold Pa.wt at this; simp only [evs_wt, ints_wt] at this; omega) (H6.out.1.under HB3.out) (H6.out.2.under HB3.out)).mono ?_
  rintro e w4 ⟨rfl, hb⟩
  have HB4 : Hid (Below w.heap.size w w4) := HB3.out.trans (hb.mono HB3.out.size)
  have HP4 : Hid (Bk w4 w.heap.size 88 #[.int .i64 p.n, u1, .int .i64 p.st.q, .int .i64 p.st.d, u4, u5, u6]) := HP3.out.below hb
  have HQ4 : Hid (Bk w4 (w.heap.size + 1) 88 #[.int .i64 p.n, v1, .int .i64 p.st.q, .int .i64 p.st.d, v4, v5, v6]) := HQ3.out.below hb
  clear hb
  go_wp2
  go_ret
  exact ⟨rfl, HB4.out⟩
end Go.Proofs.YtnlhcdchmgfipaaGreat

/- szPartS: how much there is. -/
namespace Go.Proofs.YtnlhcdchmgfipaaGreat
open Go.RowKit
set_option maxHeartbeats 4000000 in
theorem sz_parts (x : Value) (l : List Pa) (left : Int) (w : World) (h0 : 0 ≤ left) (h1 : left ≤ 1048576) (h : IsD w x (partsD l)) :
    Calls Tryz.prog 48 #[x, .int .i64 left] w fun e w' => (∃ r, e = .returned (.int .i64 r) ∧ SzR (partsD l).wt left r) ∧ Below w.heap.size w w' := by
  obtain ⟨a, cap, rfl, hn1, hn, h⟩ := IsD.parts (c := 7) (n := l.length) h
  have hn2 : l.length ≤ 9223372036854775807 := by unfold maxLen at hn; omega
  clear hn1 hn
  by_cases hp : left - (l.length : Int) < 0
  · go_enter Tryz.func48, Tryz.ntmps48
    go_wp2
    go_ret
    exact ⟨⟨_, rfl, .inl rfl⟩, Below.refl _ _⟩
  · have HLF : Hid (0 ≤ left - (l.length : Int)) := (by omega : 0 ≤ left - (l.length : Int))
    go_enter Tryz.func48, Tryz.ntmps48
    go_wp2
    go_loopw [5, 1] (fun i z wr => ∃ k : Nat, k ≤ l.length ∧ i = .int .i64 k ∧ Below w.heap.size w wr ∧ ∃ lf : Int, z = .int .i64 lf ∧ 0 ≤ lf ∧ lf + (l.length : Int) + (sumL (fun i => (paAt l i).wt) k : Int) = left) (fun i _ _ => l.length - (intOf i).toNat)
    case atStart => exact ⟨0, Nat.zero_le _, rfl, Below.refl _ _, left - (l.length : Int), rfl, HLF.out, by simp [sumL]⟩
    case round =>
      obtain ⟨k, hk, rfl, hB, lf2, rfl, hz0, hz1⟩ := hrel
      have HZ : Hid (lf2 + (l.length : Int) + (sumL (fun i => (paAt l i).wt) k : Int) = left) := hz1
      have HB : Hid (Below w.heap.size w wr) := hB
      have hz2 : lf2 ≤ 1048576 := by omega
      clear hz1
      by_cases hlt : k < l.length
      · obtain ⟨b, off, rfl, hb, hc⟩ := h.resolve_left (by omega)
        obtain ⟨u1, u4, u5, u6, f0, f1, f2, f3, f4, f5, f6, d1, d4, d5, d6⟩ := partsD_in (fun j hj => by
          obtain ⟨u, hu, hd⟩ := hc j hj
          exact ⟨u, (hB.cell (p := ⟨b, off + j, none⟩) hb).trans hu, hd.under hB⟩) hlt
        have HD : Hid (IsPart wr (.agg #[.int .i64 (paAt l k).n, u1, .int .i64 (paAt l k).st.q, .int .i64 (paAt l k).st.d, u4, u5, u6]) (paAt l k)) := ⟨u1, u4, u5, u6, rfl, d1, d4, d5, d6⟩
        clear h hc hB d1 d4 d5 d6
        go_wp2_with fail
        clear f0 f1 f2 f3 f4 f5 f6
        refine (szPart_any _ (paAt l k) _ _ hz0 hz2 HD.out).mono ?_
        rintro e w2 ⟨⟨r, rfl, hr⟩, hb2⟩
        have HB2 : Hid (Below w.heap.size w w2) := HB.out.trans (hb2.mono HB.out.size)
        clear hb2
        rcases hr with rfl | ⟨r0, hr⟩
        · go_wp2
          go_ret
          exact ⟨⟨_, rfl, .inl rfl⟩, HB2.out⟩
        · have HR : Hid (r + ((paAt l k).wt : Int) = lf2) := hr
          have r2 : ¬ (r < 0) := by omega
          clear hr
          go_wp2
          go_roundw
          case rel => exact ⟨k + 1, by omega, by go_num, HB2.out, r, rfl, r0, by have := HR.out; have := HZ.out; simp only [sumL]; omega⟩
          case measure => simp [intOf]; omega
      · clear h hB
        go_wp2
        go_ret
        obtain rfl : k = l.length := by omega
        exact ⟨⟨_, rfl, .inr ⟨hz0, by rw [partsD_wt]; have := HZ.out; omega⟩⟩, HB.out⟩
end Go.Proofs.YtnlhcdchmgfipaaGreat

/- Mails as plain values and as cells; rows of them: how much there is, two alike, a copy of its own. -/
namespace Go.Proofs.YtnlhcdchmgfipaaGreat
open Go.RowKit
structure Ml where
  e : Ev
  a : Bool
def mlAt (l : List Ml) (i : Nat) : Ml := l.getD i ⟨⟨0, 0, 0, 0, 0, 0, 0⟩, false⟩
def Ml.cs (m : Ml) : List Value := [.int .i64 m.e.t, .int .i64 m.e.s, .int .i64 m.e.q, .int .i64 m.e.d, .int .i64 m.e.k, .int .i64 m.e.v, .int .i64 m.e.g, .bool m.a]
abbrev Ml.val (m : Ml) : Value := .agg #[.int .i64 m.e.t, .int .i64 m.e.s, .int .i64 m.e.q, .int .i64 m.e.d, .int .i64 m.e.k, .int .i64 m.e.v, .int .i64 m.e.g, .bool m.a]
def cellsMl : List Ml → List Value
  | [] => []
  | e :: l => e.cs ++ cellsMl l
theorem cellsMl_length : ∀ l : List Ml, (cellsMl l).length = l.length * 8
  | [] => rfl
  | e :: l => by simp [cellsMl, cellsMl_length l, Ml.cs]; omega
theorem cellsMl_append : ∀ l l' : List Ml, cellsMl (l ++ l') = cellsMl l ++ cellsMl l'
  | [], _ => rfl
  | e :: l, l' => by simp [cellsMl, cellsMl_append l l']
theorem mlAt_cons_succ (e : Ml) (l : List Ml) (i : Nat) : mlAt (e :: l) (i + 1) = mlAt l i := by simp [mlAt]
theorem cellsMl_get : ∀ (l : List Ml) (i r : Nat), i < l.length → r < 8 → (cellsMl l)[i * 8 + r]? = (mlAt l i).cs[r]?
  | [], _, _, h, _ => by simp at h
  | e :: l, 0, r, _, hr => by
    have : r < e.cs.length := by simpa [Ml.cs] using hr
    simp only [cellsMl, Nat.zero_mul, Nat.zero_add]
    rw [List.getElem?_append_left this]
    simp [mlAt]
  | e :: l, i + 1, r, h, hr => by
    have h1 := cellsMl_get l i r (by simpa using h) hr
    have : e.cs.length ≤ (i + 1) * 8 + r := by simp [Ml.cs]; omega
    simp only [cellsMl]
    rw [List.getElem?_append_right this, mlAt_cons_succ, ← h1]
    congr 1
    simp [Ml.cs]; omega
structure MlAt (w : World) (b o : Nat) (m : Ml) : Prop where
  f0 : w.cell? ⟨b, o, none⟩ = some (.int .i64 m.e.t)
  f1 : w.cell? ⟨b, o + 1, none⟩ = some (.int .i64 m.e.s)
  f2 : w.cell? ⟨b, o + 2, none⟩ = some (.int .i64 m.e.q)
  f3 : w.cell? ⟨b, o + 3, none⟩ = some (.int .i64 m.e.d)
  f4 : w.cell? ⟨b, o + 4, none⟩ = some (.int .i64 m.e.k)
  f5 : w.cell? ⟨b, o + 5, none⟩ = some (.int .i64 m.e.v)
  f6 : w.cell? ⟨b, o + 6, none⟩ = some (.int .i64 m.e.g)
  f7 : w.cell? ⟨b, o + 7, none⟩ = some (.bool m.a)
theorem MlAt.below {w w' : World} {B b o : Nat} {m : Ml} (h : MlAt w b o m) (hb : Below B w w') (hlt : b < B) : MlAt w' b o m :=
  ⟨(hb.cell hlt).trans h.f0, (hb.cell hlt).trans h.f1, (hb.cell hlt).trans h.f2, (hb.cell hlt).trans h.f3, (hb.cell hlt).trans h.f4, (hb.cell hlt).trans h.f5, (hb.cell hlt).trans h.f6, (hb.cell hlt).trans h.f7⟩
def MlsAt (w : World) (b off : Nat) (l : List Ml) : Prop := b < w.heap.size ∧ ∀ i, i < l.length → MlAt w b (off + i * 8) (mlAt l i)
def IsMl (w : World) (x : Value) (l : List Ml) : Prop := ∃ a cap, x = .slice a l.length cap ∧ l.length ≤ cap ∧ cap ≤ maxLen ∧ (l = [] ∨ ∃ b off, a = some ⟨b, off, none⟩ ∧ MlsAt w b off l)
def mailsD (l : List Ml) : Dat := flat 8 l.length (cellsMl l)
theorem IsMl.isD {w : World} {x : Value} {l : List Ml} (h : IsMl w x l) : IsD w x (mailsD l) := by
  obtain ⟨a, cap, rfl, h1, h2, h⟩ := h
  refine IsD.of_parts h1 h2 (h.imp (fun e => by rw [e]; rfl) ?_)
  rintro ⟨b, off, rfl, hb, hc⟩
  refine ⟨b, off, rfl, hb, fun j hj => ?_⟩
  have hi : j / 8 < l.length := by omega
  have hr : j % 8 < 8 := by omega
  have hE := hc (j / 8) hi
  have hg := cellsMl_get l (j / 8) (j % 8) hi hr
  rw [show j / 8 * 8 + j % 8 = j from by omega] at hg
  have hall : ∀ r, r < 8 → ∃ u, w.cell? ⟨b, off + j / 8 * 8 + r, none⟩ = some u ∧ (mlAt l (j / 8)).cs[r]? = some u := fun r hr => by
    match r, hr with
    | 0, _ => exact ⟨_, hE.f0, rfl⟩
    | 1, _ => exact ⟨_, hE.f1, rfl⟩
    | 2, _ => exact ⟨_, hE.f2, rfl⟩
    | 3, _ => exact ⟨_, hE.f3, rfl⟩
    | 4, _ => exact ⟨_, hE.f4, rfl⟩
    | 5, _ => exact ⟨_, hE.f5, rfl⟩
    | 6, _ => exact ⟨_, hE.f6, rfl⟩
    | 7, _ => exact ⟨_, hE.f7, rfl⟩
  obtain ⟨u, h3, h4⟩ := hall _ hr
  refine ⟨u, by rw [← h3]; congr 2; omega, ?_⟩
  rw [show (cellsMl l).getD j (.int .i64 0) = u from getD_of (hg.trans h4)]
  exact .val _
theorem IsD.isMl {w : World} {x : Value} {l : List Ml} (h : IsD w x (mailsD l)) : IsMl w x l := by
  obtain ⟨a, cap, rfl, h1, h2, h⟩ := IsD.parts (c := 8) (n := l.length) h
  refine ⟨a, cap, rfl, h1, h2, h.imp List.eq_nil_of_length_eq_zero ?_⟩
  rintro ⟨b, off, rfl, hb, hc⟩
  refine ⟨b, off, rfl, hb, fun i hi => ?_⟩
  have hget : ∀ r, r < 8 → w.cell? ⟨b, off + i * 8 + r, none⟩ = (mlAt l i).cs[r]? := fun r hr => by
    obtain ⟨u, hu, hd⟩ := hc (i * 8 + r) (by omega)
    rw [Nat.add_assoc, hu, hd.val_eq]
    have hg := cellsMl_get l i r hi hr
    have : r < (mlAt l i).cs.length := by simpa [Ml.cs] using hr
    rw [List.getElem?_eq_getElem this] at hg ⊢
    rw [getD_of hg]
  exact ⟨hget 0 (by omega), hget 1 (by omega), hget 2 (by omega), hget 3 (by omega), hget 4 (by omega), hget 5 (by omega), hget 6 (by omega), hget 7 (by omega)⟩
theorem mails_wt (l : List Ml) : (mailsD l).wt = l.length := flat_wt _ _ _
theorem mails_cnt (l : List Ml) : (mailsD l).cnt = l.length * 8 := flat_cnt _ _ _
theorem mails_thin (l : List Ml) : (mailsD l).thin := flat_thin (by omega)
set_option maxHeartbeats 400000 in
theorem szMl_any (a : Option Addr) (n cap : Nat) (left : Int) (w : World) (hn : n ≤ maxLen) (h0 : 0 ≤ left) (h1 : left ≤ 1048576) :
    Calls Tryz.prog 49 #[.slice a n cap, .int .i64 left] w fun e w' => e = .returned (.int .i64 (szN n left)) ∧ w' = w := by
  unfold maxLen at hn
  by_cases hp : left - (n : Int) < 0
  · go_enter Tryz.func49, Tryz.ntmps49
    go_wp2
    go_ret
    exact ⟨ret_int (by unfold szN; rw [if_pos hp]), rfl⟩
  · go_enter Tryz.func49, Tryz.ntmps49
    go_wp2
    go_ret
    exact ⟨ret_int (by unfold szN; rw [if_neg (by omega)]), rfl⟩
theorem sz_mails (x : Value) (l : List Ml) (left : Int) (w : World) (h0 : 0 ≤ left) (h1 : left ≤ 1048576) (h : IsD w x (mailsD l)) :
    Calls Tryz.prog 49 #[x, .int .i64 left] w fun e w' => (∃ r, e = .returned (.int .i64 r) ∧ SzR (mailsD l).wt left r) ∧ Below w.heap.size w w' := by
  obtain ⟨a, cap, rfl, hn⟩ := IsD.len (c := 8) (n := l.length) h
  refine (szMl_any a l.length cap left w hn h0 h1).mono ?_
  rintro e w' ⟨rfl, rfl⟩
  exact ⟨⟨_, rfl, by rw [mails_wt]; exact szN_R _ _⟩, Below.refl _ _⟩
set_option maxHeartbeats 1000000 in
theorem eqMail_same (t s q d k v g : Int) (b : Bool) (w : World) :
    Calls Tryz.prog 137 #[.agg #[.int .i64 t, .int .i64 s, .int .i64 q, .int .i64 d, .int .i64 k, .int .i64 v, .int .i64 g, .bool b], .agg #[.int .i64 t, .int .i64 s, .int .i64 q, .int .i64 d, .int .i64 k, .int .i64 v, .int .i64 g, .bool b]] w fun e w' => e = .returned (.bool true) ∧ Below w.heap.size w w' := by
  obtain ⟨W0, hW0⟩ : ∃ V, (w.alloc (.cells #[.int .i64 t, .int .i64 s, .int .i64 q, .int .i64 d, .int .i64 k, .int .i64 v, .int .i64 g, .bool b] 91)).alloc (.cells #[.int .i64 t, .int .i64 s, .int .i64 q, .int .i64 d, .int .i64 k, .int .i64 v, .int .i64 g, .bool b] 91) = V := ⟨_, rfl⟩
  have hb0 : Below w.heap.size w W0 := hW0 ▸ ((Below.refl _ w).alloc (Nat.le_refl _) _).alloc (by simp) _
  have HB0 : Hid (Below w.heap.size w W0) := hb0
  have B1 : Hid (Bk W0 w.heap.size 91 #[.int .i64 t, .int .i64 s, .int .i64 q, .int .i64 d, .int .i64 k, .int .i64 v, .int .i64 g, .bool b]) := hW0 ▸ (Bk.new w _ _).alloc _
  have B2 : Hid (Bk W0 (w.heap.size + 1) 91 #[.int .i64 t, .int .i64 s, .int .i64 q, .int .i64 d, .int .i64 k, .int .i64 v, .int .i64 g, .bool b]) := hW0 ▸ Bk.newAt (by simp) _ _
  clear hb0
  have x0 := B1.out.cell (i := 0) rfl
  have x1 := B1.out.cell (i := 1) rfl
  have x2 := B1.out.cell (i := 2) rfl
  have x3 := B1.out.cell (i := 3) rfl
  have x4 := B1.out.cell (i := 4) rfl
  have x5 := B1.out.cell (i := 5) rfl
  have x6 := B1.out.cell (i := 6) rfl
  have y0 := B2.out.cell (i := 0) rfl
  have y1 := B2.out.cell (i := 1) rfl
  have y2 := B2.out.cell (i := 2) rfl
  have y3 := B2.out.cell (i := 3) rfl
  have y4 := B2.out.cell (i := 4) rfl
  have y5 := B2.out.cell (i := 5) rfl
  have y6 := B2.out.cell (i := 6) rfl
  go_enter Tryz.func137, Tryz.ntmps137
  go_wp2_with fail
  clear hW0 x0 y0 x1 y1 x2 y2 x3 y3 x4 y4 x5 y5 x6 y6
  refine (eqEvent_same _ _ _ _ _ _ _ _).mono ?_
  rintro r w1 ⟨rfl, hb⟩
  have x7 := (B1.out.below hb).cell (i := 7) rfl
  have y7 := (B2.out.below hb).cell (i := 7) rfl
  have HB1 : Hid (Below w.heap.size w w1) := HB0.out.trans (hb.mono HB0.out.size)
  clear hb
  cases b <;> (go_wp2; go_ret; exact ⟨rfl, HB1.out⟩)
set_option maxHeartbeats 1000000 in
theorem eqMl_same (x y : Value) (l : List Ml) (w : World) (hl : l.length ≤ 1048576) (hx : IsMl w x l) (hy : IsMl w y l) :
    Calls Tryz.prog 74 #[x, y] w fun e w' => e = .returned (.bool true) ∧ Below w.heap.size w w' := by
  obtain ⟨a, cap, rfl, h1, h2, h⟩ := hx
  obtain ⟨a', cap', rfl, h1', h2', h'⟩ := hy
  clear h1 h2 h1' h2'
  by_cases hz : l = []
  · subst hz
    clear h h'
    go_enter Tryz.func74, Tryz.ntmps74
    go_wp2
    go_loop [5] (fun i => i = .int .i64 0) (fun _ => 0)
    case atStart => rfl
    case round =>
      subst hrel
      go_wp2
      go_ret
      exact ⟨rfl, Below.refl _ _⟩
  · obtain ⟨b, off, rfl, hb, hc⟩ := h.resolve_left hz
    obtain ⟨b', off', rfl, hb', hc'⟩ := h'.resolve_left hz
    clear h h' hz
    go_enter Tryz.func74, Tryz.ntmps74
    go_wp2
    go_loopw [5] (fun i wr => ∃ k : Nat, k ≤ l.length ∧ i = .int .i64 k ∧ Below w.heap.size w wr) (fun i _ => l.length - (intOf i).toNat)
    case atStart => exact ⟨0, Nat.zero_le _, rfl, Below.refl _ _⟩
    case round =>
      obtain ⟨k, hk, rfl, hB⟩ := hrel
      have HB : Hid (Below w.heap.size w wr) := hB
      by_cases hlt : k < l.length
      · obtain ⟨f0, f1, f2, f3, f4, f5, f6, f7⟩ := (hc k hlt).below hB hb
        obtain ⟨e0, e1, e2, e3, e4, e5, e6, e7⟩ := (hc' k hlt).below hB hb'
        have hbr : b < wr.heap.size := Nat.lt_of_lt_of_le hb hB.size
        have hbr' : b' < wr.heap.size := Nat.lt_of_lt_of_le hb' hB.size
        clear hB hc hc'
        go_wp2_with fail
        go_region_held3 (fun W => W.cell? ⟨b, off + k * 8, none⟩ = some (.int .i64 (mlAt l k).e.t) ∧ W.cell? ⟨b, off + k * 8 + 1, none⟩ = some (.int .i64 (mlAt l k).e.s) ∧ W.cell? ⟨b, off + k * 8 + 2, none⟩ = some (.int .i64 (mlAt l k).e.q) ∧ W.cell? ⟨b, off + k * 8 + 3, none⟩ = some (.int .i64 (mlAt l k).e.d) ∧ W.cell? ⟨b, off + k * 8 + 4, none⟩ = some (.int .i64 (mlAt l k).e.k) ∧ W.cell? ⟨b, off + k * 8 + 5, none⟩ = some (.int .i64 (mlAt l k).e.v) ∧ W.cell? ⟨b, off + k * 8 + 6, none⟩ = some (.int .i64 (mlAt l k).e.g) ∧ W.cell? ⟨b, off + k * 8 + 7, none⟩ = some (.bool (mlAt l k).a) ∧ W.cell? ⟨b', off' + k * 8, none⟩ = some (.int .i64 (mlAt l k).e.t) ∧ W.cell? ⟨b', off' + k * 8 + 1, none⟩ = some (.int .i64 (mlAt l k).e.s) ∧ W.cell? ⟨b', off' + k * 8 + 2, none⟩ = some (.int .i64 (mlAt l k).e.q) ∧ W.cell? ⟨b', off' + k * 8 + 3, none⟩ = some (.int .i64 (mlAt l k).e.d) ∧ W.cell? ⟨b', off' + k * 8 + 4, none⟩ = some (.int .i64 (mlAt l k).e.k) ∧ W.cell? ⟨b', off' + k * 8 + 5, none⟩ = some (.int .i64 (mlAt l k).e.v) ∧ W.cell? ⟨b', off' + k * 8 + 6, none⟩ = some (.int .i64 (mlAt l k).e.g) ∧ W.cell? ⟨b', off' + k * 8 + 7, none⟩ = some (.bool (mlAt l k).a)) ((repeat' apply And.intro) <;> first | (go_keep; done) | (rw [hcA _ _ (by first | omega | (simp; omega) | simp [*])]; simp [*]; done))
          (first | (go_at_call 137; refine (eqMail_same _ _ _ _ _ _ _ _ _).mono ?_; rintro e w2 ⟨rfl, hb2⟩; obtain ⟨hcA, hfA⟩ := bcell hb2))
        clear hcA hfA
        go_wp2
        go_roundw
        case rel => exact ⟨k + 1, by omega, by go_num, HB.out.drew.trans (hb2.mono (by have := HB.out.size; simpa using this))⟩
        case measure => simp [intOf]; omega
      · clear hB hc hc'
        go_wp2
        go_ret
        exact ⟨rfl, HB.out⟩
theorem eq_mails (x y : Value) (l : List Ml) (w : World) (hl : l.length ≤ 1048576) (hx : IsD w x (mailsD l)) (hy : IsD w y (mailsD l)) :
    Calls Tryz.prog 74 #[x, y] w fun e w' => e = .returned (.bool true) ∧ Below w.heap.size w w' :=
  eqMl_same x y l w hl hx.isMl hy.isMl
end Go.Proofs.YtnlhcdchmgfipaaGreat

/- szModel, with how much it leaves. -/
namespace Go.Proofs.YtnlhcdchmgfipaaGreat
open Go.RowKit
set_option maxHeartbeats 2000000 in
theorem szModel_le (x : Value) (m : Md) (w : World) (h : IsM w x m) :
    Calls Tryz.prog 46 #[x, .int .i64 1048576] w fun e w' => (∃ r, e = .returned (.int .i64 r) ∧ (r = -1 ∨ (0 ≤ r ∧ r ≤ 1048576 ∧ SmallM m))) ∧ Below w.heap.size w w' := by
  obtain ⟨vi, vh, vs, rfl, h1, h2, h3⟩ := h
  obtain ⟨n, s, i, hh, ev, z⟩ := m
  have HH : Hid (IsH w vh hh) := h2
  obtain ⟨a1, c1, rfl, hi1, hi2, _⟩ := h1
  obtain ⟨a3, c3, rfl, he1, he2, _⟩ := h3
  have HI : Hid (i.length ≤ maxLen) := Nat.le_trans hi1 hi2
  have HE : Hid (ev.length ≤ maxLen) := Nat.le_trans he1 he2
  clear h2 hi1 hi2 he1 he2
  obtain ⟨W0, hW0⟩ : ∃ W0, w.alloc (.cells #[.int .i64 n, .int .i64 s, .slice a1 i.length c1, vh, .slice a3 ev.length c3, .int .i64 z] 26) = W0 := ⟨_, rfl⟩
  have HB0 : Hid (Below w.heap.size w W0) := by rw [← hW0]; exact (Below.refl _ w).alloc (Nat.le_refl _) _
  have HP0 : Bk W0 w.heap.size 26 #[.int .i64 n, .int .i64 s, .slice a1 i.length c1, vh, .slice a3 ev.length c3, .int .i64 z] := by rw [← hW0]; exact Bk.new w _ _
  have p2 := HP0.cell (i := 2) rfl
  have p3 := HP0.cell (i := 3) rfl
  have p4 := HP0.cell (i := 4) rfl
  clear HP0
  have go : ∀ q : Int, q = szN i.length 1048576 → q = -1 ∨ (0 ≤ q ∧ q ≤ 1048576 ∧ i.length ≤ 1048576) := by
    intro q hq
    unfold szN at hq
    split at hq <;> omega
  go_enter Tryz.func46, Tryz.ntmps46
  go_wp2_with fail
  refine (szI_any _ _ _ _ _ HI.out (by omega) (by omega)).mono ?_
  rintro e w' ⟨rfl, hw⟩
  have hw' := hw.symm
  clear hw
  subst hw'
  clear hW0
  generalize hq : szN i.length 1048576 = q
  rcases go q hq.symm with rfl | ⟨q0, q1, q2⟩
  · clear go hq
    go_wp2
    go_ret
    exact ⟨⟨_, rfl, .inl rfl⟩, HB0.out⟩
  · have HQ : Hid (i.length ≤ 1048576) := q2
    have q3 : ¬ (q < 0) := by omega
    clear go hq q2
    go_wp2_with fail
    refine (szH_any _ hh _ _ (HH.out.below HB0.out) q0 q1).mono ?_
    rintro e w' ⟨⟨r, rfl, hr⟩, hw⟩
    have hw' := hw.symm
    clear hw
    subst hw'
    rcases hr with rfl | ⟨r0, r1, r2, r3, r4⟩
    · go_wp2
      go_ret
      exact ⟨⟨_, rfl, .inl rfl⟩, HB0.out⟩
    · have r5 : ¬ (r < 0) := by omega
      have r6 : r ≤ 1048576 := by omega
      have HR : Hid ((hh.length : Int) ≤ 1048576 ∧ (∀ i, (hAt hh i).length ≤ 1048576) ∧ sumL (lens hh) hh.length ≤ 1048576) := ⟨r2, r3, r4⟩
      clear r1 r2 r3 r4
      go_wp2_with fail
      refine (szE_any _ _ _ _ _ HE.out r0 r6).mono ?_
      rintro e w' ⟨rfl, hw⟩
      have hw' := hw.symm
      clear hw
      subst hw'
      generalize hq : szN ev.length r = t
      have ht : t = -1 ∨ (0 ≤ t ∧ t ≤ 1048576 ∧ ev.length ≤ 1048576) := by
        unfold szN at hq
        split at hq <;> omega
      clear hq
      rcases ht with rfl | ⟨t0, t9, t1⟩
      · go_wp2
        go_ret
        exact ⟨⟨_, rfl, .inl rfl⟩, HB0.out⟩
      · have t2 : ¬ (t < 0) := by omega
        go_wp2
        go_ret
        exact ⟨⟨_, rfl, .inr ⟨t0, t9, HQ.out, by have := HR.out.1; show hh.length ≤ 1048576; omega, HR.out.2.1, HR.out.2.2, t1⟩⟩, HB0.out⟩

end Go.Proofs.YtnlhcdchmgfipaaGreat

/- A kernel, as plain values and in memory; how much there is of it. -/
namespace Go.Proofs.YtnlhcdchmgfipaaGreat
open Go.RowKit
structure Kn where
  m : Md
  d : List Int
  p : List Pa
  b : List Ml
  t : Int
  q : Int
  f : Bool
  s : List Ev
  x : List Em
def Kn.wt (k : Kn) : Nat := (intsD k.d).wt + (partsD k.p).wt + (mailsD k.b).wt + (evsD k.s).wt + (emsD k.x).wt
def SmallK (k : Kn) : Prop := SmallM k.m ∧ k.wt ≤ 1048576
def IsKern (w : World) (x : Value) (k : Kn) : Prop := ∃ vi vh vs u6 u7 u8 u12 u13, x = .agg #[.int .i64 k.m.n, .int .i64 k.m.s, vi, vh, vs, .int .i64 k.m.z, u6, u7, u8, .int .i64 k.t, .int .i64 k.q, .bool k.f, u12, u13] ∧ IsM w (.agg #[.int .i64 k.m.n, .int .i64 k.m.s, vi, vh, vs, .int .i64 k.m.z]) k.m ∧ IsD w u6 (intsD k.d) ∧ IsD w u7 (partsD k.p) ∧ IsD w u8 (mailsD k.b) ∧ IsD w u12 (evsD k.s) ∧ IsD w u13 (emsD k.x)
theorem IsKern.under {w w' : World} {x : Value} {k : Kn} (h : IsKern w x k) (hb : Below w.heap.size w w') : IsKern w' x k := by
  obtain ⟨vi, vh, vs, u6, u7, u8, u12, u13, rfl, hm, h6, h7, h8, h12, h13⟩ := h
  exact ⟨vi, vh, vs, u6, u7, u8, u12, u13, rfl, hm.below hb, h6.under hb, h7.under hb, h8.under hb, h12.under hb, h13.under hb⟩
set_option maxRecDepth 100000 in
set_option maxHeartbeats 4000000 in
theorem szKernel_any (x : Value) (k : Kn) (w : World) (h : IsKern w x k) :
    Calls Tryz.prog 13 #[x, .int .i64 1048576] w fun e w' => (∃ r, e = .returned (.int .i64 r) ∧ (r = -1 ∨ (0 ≤ r ∧ SmallK k))) ∧ Below w.heap.size w w' := by
  obtain ⟨vi, vh, vs, u6, u7, u8, u12, u13, rfl, hm, h6, h7, h8, h12, h13⟩ := h
  have HM : Hid (IsM w (.agg #[.int .i64 k.m.n, .int .i64 k.m.s, vi, vh, vs, .int .i64 k.m.z]) k.m) := hm
  have H6 : Hid (IsD w u6 (intsD k.d)) := h6
  have H7 : Hid (IsD w u7 (partsD k.p)) := h7
  have H8 : Hid (IsD w u8 (mailsD k.b)) := h8
  have H12 : Hid (IsD w u12 (evsD k.s)) := h12
  have H13 : Hid (IsD w u13 (emsD k.x)) := h13
  clear hm h6 h7 h8 h12 h13
  obtain ⟨W0, hW0⟩ : ∃ W0, w.alloc (.cells #[.int .i64 k.m.n, .int .i64 k.m.s, vi, vh, vs, .int .i64 k.m.z, u6, u7, u8, .int .i64 k.t, .int .i64 k.q, .bool k.f, u12, u13] 31) = W0 := ⟨_, rfl⟩
  have HB0 : Hid (Below w.heap.size w W0) := by rw [← hW0]; exact (Below.refl _ w).alloc (Nat.le_refl _) _
  have HP0 : Hid (Bk W0 w.heap.size 31 #[.int .i64 k.m.n, .int .i64 k.m.s, vi, vh, vs, .int .i64 k.m.z, u6, u7, u8, .int .i64 k.t, .int .i64 k.q, .bool k.f, u12, u13]) := by rw [← hW0]; exact Bk.new w _ _
  have HW : Hid (w.alloc (.cells #[.int .i64 k.m.n, .int .i64 k.m.s, vi, vh, vs, .int .i64 k.m.z, u6, u7, u8, .int .i64 k.t, .int .i64 k.q, .bool k.f, u12, u13] 31) = W0) := hW0
  clear hW0
  go_enter Tryz.func13, Tryz.ntmps13
  have p0 := HP0.out.cell (i := 0) rfl
  have p1 := HP0.out.cell (i := 1) rfl
  have p2 := HP0.out.cell (i := 2) rfl
  have p3 := HP0.out.cell (i := 3) rfl
  have p4 := HP0.out.cell (i := 4) rfl
  have p5 := HP0.out.cell (i := 5) rfl
  go_wp2_with fail
  rw [HW.out]
  clear HW p0 p1 p2 p3 p4 p5
  refine (szModel_le _ k.m _ (HM.out.below HB0.out)).mono ?_
  rintro e w1 ⟨⟨r1, rfl, hr⟩, hb⟩
  have HB1 : Hid (Below w.heap.size w w1) := HB0.out.trans (hb.mono HB0.out.size)
  have HP1 : Hid (Bk w1 w.heap.size 31 #[.int .i64 k.m.n, .int .i64 k.m.s, vi, vh, vs, .int .i64 k.m.z, u6, u7, u8, .int .i64 k.t, .int .i64 k.q, .bool k.f, u12, u13]) := HP0.out.below hb
  clear hb
  rcases hr with rfl | ⟨r10, r11, hsm⟩
  · go_wp2
    go_ret
    exact ⟨⟨_, rfl, .inl rfl⟩, HB1.out⟩
  have HSM : Hid (SmallM k.m) := hsm
  have HE1 : Hid (r1 ≤ 1048576) := r11
  have r12 : ¬ (r1 < 0) := by omega
  clear hsm
  have p6 := HP1.out.cell (i := 6) rfl
  go_wp2_with fail
  clear p6
  refine (sz_ints _ k.d _ _ r10 r11 (H6.out.under HB1.out)).mono ?_
  rintro e w2 ⟨⟨r2, rfl, hr⟩, hb⟩
  have HB2 : Hid (Below w.heap.size w w2) := HB1.out.trans (hb.mono HB1.out.size)
  have HP2 : Hid (Bk w2 w.heap.size 31 #[.int .i64 k.m.n, .int .i64 k.m.s, vi, vh, vs, .int .i64 k.m.z, u6, u7, u8, .int .i64 k.t, .int .i64 k.q, .bool k.f, u12, u13]) := HP1.out.below hb
  clear hb
  rcases hr with rfl | ⟨r20, hr⟩
  · go_wp2
    go_ret
    exact ⟨⟨_, rfl, .inl rfl⟩, HB2.out⟩
  have r21 : r2 ≤ 1048576 := by omega
  have r22 : ¬ (r2 < 0) := by omega
  have HE2 : Hid (r2 + ((intsD k.d).wt : Int) = r1) := hr
  clear hr r12
  have p7 := HP2.out.cell (i := 7) rfl
  go_wp2_with fail
  clear p7
  refine (sz_parts _ k.p _ _ r20 r21 (H7.out.under HB2.out)).mono ?_
  rintro e w3 ⟨⟨r3, rfl, hr⟩, hb⟩
  have HB3 : Hid (Below w.heap.size w w3) := HB2.out.trans (hb.mono HB2.out.size)
  have HP3 : Hid (Bk w3 w.heap.size 31 #[.int .i64 k.m.n, .int .i64 k.m.s, vi, vh, vs, .int .i64 k.m.z, u6, u7, u8, .int .i64 k.t, .int .i64 k.q, .bool k.f, u12, u13]) := HP2.out.below hb
  clear hb
  rcases hr with rfl | ⟨r30, hr⟩
  · go_wp2
    go_ret
    exact ⟨⟨_, rfl, .inl rfl⟩, HB3.out⟩
  have r31 : r3 ≤ 1048576 := by omega
  have r32 : ¬ (r3 < 0) := by omega
  have HE3 : Hid (r3 + ((partsD k.p).wt : Int) = r2) := hr
  clear hr r22
  have p8 := HP3.out.cell (i := 8) rfl
  go_wp2_with fail
  clear p8
  refine (sz_mails _ k.b _ _ r30 r31 (H8.out.under HB3.out)).mono ?_
  rintro e w4 ⟨⟨r4, rfl, hr⟩, hb⟩
  have HB4 : Hid (Below w.heap.size w w4) := HB3.out.trans (hb.mono HB3.out.size)
  have HP4 : Hid (Bk w4 w.heap.size 31 #[.int .i64 k.m.n, .int .i64 k.m.s, vi, vh, vs, .int .i64 k.m.z, u6, u7, u8, .int .i64 k.t, .int .i64 k.q, .bool k.f, u12, u13]) := HP3.out.below hb
  clear hb
  rcases hr with rfl | ⟨r40, hr⟩
  · go_wp2
    go_ret
    exact ⟨⟨_, rfl, .inl rfl⟩, HB4.out⟩
  have r41 : r4 ≤ 1048576 := by omega
  have r42 : ¬ (r4 < 0) := by omega
  have HE4 : Hid (r4 + ((mailsD k.b).wt : Int) = r3) := hr
  clear hr r32
  have p12 := HP4.out.cell (i := 12) rfl
  go_wp2_with fail
  clear p12
  refine (sz_evs _ k.s _ _ r40 r41 (H12.out.under HB4.out)).mono ?_
  rintro e w5 ⟨⟨r5, rfl, hr⟩, hb⟩
  have HB5 : Hid (Below w.heap.size w w5) := HB4.out.trans (hb.mono HB4.out.size)
  have HP5 : Hid (Bk w5 w.heap.size 31 #[.int .i64 k.m.n, .int .i64 k.m.s, vi, vh, vs, .int .i64 k.m.z, u6, u7, u8, .int .i64 k.t, .int .i64 k.q, .bool k.f, u12, u13]) := HP4.out.below hb
  clear hb
  rcases hr with rfl | ⟨r50, hr⟩
  · go_wp2
    go_ret
    exact ⟨⟨_, rfl, .inl rfl⟩, HB5.out⟩
  have r51 : r5 ≤ 1048576 := by omega
  have r52 : ¬ (r5 < 0) := by omega
  have HE5 : Hid (r5 + ((evsD k.s).wt : Int) = r4) := hr
  clear hr r42
  have p13 := HP5.out.cell (i := 13) rfl
  go_wp2_with fail
  clear p13
  refine (sz_ems _ k.x _ _ r50 r51 (H13.out.under HB5.out)).mono ?_
  rintro e w6 ⟨⟨r6, rfl, hr⟩, hb⟩
  have HB6 : Hid (Below w.heap.size w w6) := HB5.out.trans (hb.mono HB5.out.size)
  have HP6 : Hid (Bk w6 w.heap.size 31 #[.int .i64 k.m.n, .int .i64 k.m.s, vi, vh, vs, .int .i64 k.m.z, u6, u7, u8, .int .i64 k.t, .int .i64 k.q, .bool k.f, u12, u13]) := HP5.out.below hb
  clear hb
  rcases hr with rfl | ⟨r60, hr⟩
  · go_wp2
    go_ret
    exact ⟨⟨_, rfl, .inl rfl⟩, HB6.out⟩
  have r61 : r6 ≤ 1048576 := by omega
  have r62 : ¬ (r6 < 0) := by omega
  have HE6 : Hid (r6 + ((emsD k.x).wt : Int) = r5) := hr
  clear hr r52
  go_wp2
  go_ret
  refine ⟨⟨_, rfl, .inr ⟨r60, HSM.out, ?_⟩⟩, HB6.out⟩
  unfold Kn.wt
  have e1 := HE1.out
  have e2 := HE2.out
  have e3 := HE3.out
  have e4 := HE4.out
  have e5 := HE5.out
  have e6 := HE6.out
  omega
end Go.Proofs.YtnlhcdchmgfipaaGreat

