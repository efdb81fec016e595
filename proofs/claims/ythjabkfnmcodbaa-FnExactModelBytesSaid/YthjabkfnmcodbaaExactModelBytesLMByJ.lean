/- The program's ModelBytes. -/
import Derived.Test.YthjabkfnmcodbaaExactModelBytesG17
namespace Go.Proofs.Ythjabkfnmcodbaa
open Go.RowKit
set_option maxRecDepth 100000 in
set_option maxHeartbeats 8000000 in
theorem iBytesM (x : Value) (m : Md) (w : World) (hs : SmallM m) (h : IsM w x m) :
    Calls Try.prog 17 #[x] w fun e w' => ∃ u, e = .returned (.tuple #[u, .bool m.ok]) ∧ By.OwnI w.heap.size w' u (bytesR m) ∧ Below w.heap.size w w' := by
  have HX : Hid (IsM w x m) := h
  obtain ⟨vi, vh, vs, rfl, ⟨ai, ci, rfl, hi1, hi2, hi3⟩, ⟨ah, ch, rfl, hh1, hh2, hh3⟩, ⟨ae, ce, rfl, he1, he2, he3⟩⟩ := h
  have hi0 : m.i.length ≤ 1048576 := hs.i
  have hh0 : m.h.length ≤ 1048576 := hs.h
  have he0 : m.e.length ≤ 1048576 := hs.e
  have HS : Hid (SmallM m) := hs
  clear hs hi1 hi2 hh1 hh2 he1 he2
  have HI : Hid (m.i = [] ∨ ∃ b off, ai = some ⟨b, off, none⟩ ∧ IntsAt w b off m.i) := hi3
  have HH : Hid (m.h = [] ∨ ∃ b off, ah = some ⟨b, off, none⟩ ∧ b < w.heap.size ∧ ∀ i, i < m.h.length → ∃ u, w.cell? ⟨b, off + i, none⟩ = some u ∧ IsO w u (hAt m.h i)) := hh3
  have HEV : Hid (m.e = [] ∨ ∃ b off, ae = some ⟨b, off, none⟩ ∧ EvsAt w b off m.e) := he3
  clear hi3 hh3 he3 hi0 he0 hh0
  obtain ⟨W0, hW0⟩ : ∃ W0, w.alloc (.cells #[.int .i64 m.n, .int .i64 m.s, .slice ai m.i.length ci, .slice ah m.h.length ch, .slice ae m.e.length ce, .int .i64 m.z] 34) = W0 := ⟨_, rfl⟩
  have HB0 : Hid (Below w.heap.size w W0) := by rw [← hW0]; exact (Below.refl _ w).alloc (Nat.le_refl _) _
  have HP0 : Hid (Bk W0 w.heap.size 34 #[.int .i64 m.n, .int .i64 m.s, .slice ai m.i.length ci, .slice ah m.h.length ch, .slice ae m.e.length ce, .int .i64 m.z]) := by rw [← hW0]; exact Bk.new w _ _
  have p0 := HP0.out.cell (i := 0) rfl
  have p1 := HP0.out.cell (i := 1) rfl
  have p2 := HP0.out.cell (i := 2) rfl
  have p3 := HP0.out.cell (i := 3) rfl
  have p4 := HP0.out.cell (i := 4) rfl
  have p5 := HP0.out.cell (i := 5) rfl
  go_enter Try.func17, Try.ntmps17
  go_wp2_with fail
  clear hW0 p0 p1 p2 p3 p4 p5
  refine (iModM _ m _ HS.out (HX.out.below HB0.out)).mono ?_
  rintro e W1 ⟨rfl, hb⟩
  have HB1 : Hid (Below w.heap.size w W1) := HB0.out.trans (hb.mono HB0.out.size)
  have HP1 : Hid (Bk W1 w.heap.size 34 #[.int .i64 m.n, .int .i64 m.s, .slice ai m.i.length ci, .slice ah m.h.length ch, .slice ae m.e.length ce, .int .i64 m.z]) := HP0.out.below hb
  clear hb HB0 HP0
  cases hok : m.ok
  case false =>
    have HE : Hid (bytesR m = []) := (by simp [bytesR, hok] : bytesR m = [])
    have HOF : Hid (m.ok = false) := hok
    clear hok
    go_wp2
    go_ret2
    exact ⟨.slice none 0 0, by rw [HOF.out]; rfl, by rw [HE.out]; exact By.OwnI.nil _ _, HB1.out⟩
  have HE : Hid (bytesR m = bytesL m) := (by simp [bytesR, hok] : bytesR m = bytesL m)
  have HOK : Hid (m.ok = true) := hok
  obtain ⟨d0, d1, d2, d3, d4, d5, d6, d7, d8, d9⟩ := (ok_all hok).1
  clear hok
  have hn0 : 0 ≤ m.n := by omega
  have hn1 : m.n ≤ 255 := by omega
  have hh0 : (0 : Int) ≤ (m.h.length : Int) := by omega
  have hh1 : (m.h.length : Int) ≤ 255 := by omega
  have he0 : (0 : Int) ≤ (m.e.length : Int) := by omega
  have he1 : (m.e.length : Int) ≤ 255 := by omega
  have HD : Hid ((0 ≤ m.z ∧ m.z ≤ 65535) ∧ (0 ≤ m.s ∧ m.s ≤ 65535) ∧ m.i.length ≤ 4 ∧ m.h.length ≤ 4 ∧ m.e.length ≤ 6) := ⟨⟨d8, by omega⟩, ⟨d2, d3⟩, by omega, d6, d7⟩
  clear d0 d1 d2 d3 d4 d5 d6 d7 d8 d9
  obtain ⟨i0, hi, hz0, hz1, hz2⟩ := info_parts By.info5
  obtain ⟨B, hBe⟩ : ∃ B, B = W1.heap.size := ⟨_, rfl⟩
  obtain ⟨W2, hW2⟩ : ∃ W2, W1.alloc (.cells #[.int .u8 m.n, .int .u8 (m.h.length : Int), .int .u8 (m.e.length : Int)] 5) = W2 := ⟨_, rfl⟩
  have HR2 : Hid (RowBy B W2 (.slice (some ⟨W1.heap.size, 0, none⟩) 3 3) (headB m)) := by
    have := row_of3 W1 (.int .u8 m.n) (.int .u8 (m.h.length : Int)) (.int .u8 (m.e.length : Int))
    rw [hW2, ← hBe] at this
    have e : By.intCells (headB m) = [.int .u8 m.n, .int .u8 (m.h.length : Int), .int .u8 (m.e.length : Int)] := by
      have e1 : By.intCells (headB m) = By.intCells [byteOf m.n] ++ (By.intCells [byteOf (m.h.length : Int)] ++ By.intCells [byteOf (m.e.length : Int)]) := rfl
      rw [e1, cells_oneS hn0 hn1, cells_oneS hh0 hh1, cells_oneS he0 he1]; rfl
    show W2.ownsRow B 5 1 _ 3 (By.intCells (headB m))
    rw [e]
    rw [← hBe]
    exact this
  have hwB : w.heap.size < B := hBe ▸ HP1.out.lt
  have HBB : Hid (Below B W1 W2) := hW2 ▸ (Below.refl B W1).alloc (by omega) _
  have HP2 : Hid (Bk W2 w.heap.size 34 #[.int .i64 m.n, .int .i64 m.s, .slice ai m.i.length ci, .slice ah m.h.length ch, .slice ae m.e.length ce, .int .i64 m.z]) := HP1.out.keep HBB.out hwB
  have HB2 : Hid (Below w.heap.size w W2) := HB1.out.trans (HBB.out.mono (by omega))
  have HZ : Hid (B ≤ W1.heap.size) := (by omega : B ≤ W1.heap.size)
  have p0 := HP1.out.cell (i := 0) rfl
  have p3 := HP1.out.cell (i := 3) rfl
  have p4 := HP1.out.cell (i := 4) rfl
  have q5 := HP2.out.cell (i := 5) rfl
  clear hBe
  go_wp2_with fail
  clear hW2 p0 p3 p4 q5
  have hs2 : B ≤ W2.heap.size := Nat.le_trans HZ.out HBB.out.size
  refine (iTwo_any B _ _ _ _ hs2 (by simp [headB]) HD.out.1.1 HD.out.1.2 HR2.out).mono ?_
  rintro e w3 ⟨v3, rfl, hr3, ht3⟩
  have hb3 := ht3.to_below (fun k e => row_ge HR2.out e) hs2
  have HR3 : Hid (RowBy B w3 v3 (headB m ++ twoB m.z)) := hr3
  have HP3 : Hid (Bk w3 w.heap.size 34 #[.int .i64 m.n, .int .i64 m.s, .slice ai m.i.length ci, .slice ah m.h.length ch, .slice ae m.e.length ce, .int .i64 m.z]) := HP2.out.keep hb3 hwB
  have HB3 : Hid (Below w.heap.size w w3) := HB2.out.trans (hb3.mono (by omega))
  have HBB3 : Hid (Below B W1 w3) := HBB.out.trans hb3
  have hs3 : B ≤ w3.heap.size := Nat.le_trans hs2 hb3.size
  have q1 := HP3.out.cell (i := 1) rfl
  clear hr3 ht3 hb3 HR2 HP2 HB2 HBB hs2
  go_wp2_with fail
  clear q1
  refine (iTwo_any B _ _ _ _ hs3 (by simp [headB, twoB]) HD.out.2.1.1 HD.out.2.1.2 HR3.out).mono ?_
  rintro e w4 ⟨v4, rfl, hr4, ht4⟩
  have hb4 := ht4.to_below (fun k e => row_ge HR3.out e) hs3
  have HR4 : Hid (RowBy B w4 v4 (headB m ++ twoB m.z ++ twoB m.s)) := hr4
  have HP4 : Hid (Bk w4 w.heap.size 34 #[.int .i64 m.n, .int .i64 m.s, .slice ai m.i.length ci, .slice ah m.h.length ch, .slice ae m.e.length ce, .int .i64 m.z]) := HP3.out.keep hb4 hwB
  have HB4 : Hid (Below w.heap.size w w4) := HB3.out.trans (hb4.mono (by omega))
  have hs4 : B ≤ w4.heap.size := Nat.le_trans hs3 hb4.size
  have HLL : Hid (bytesL m = headB m ++ twoB m.z ++ twoB m.s ++ iniB m m.i.length ++ rowsB m m.h.length ++ evsB m m.e.length) := rfl
  have hl4 : (headB m ++ twoB m.z ++ twoB m.s).length ≤ 7 := by simp [headB, twoB]
  generalize headB m ++ twoB m.z ++ twoB m.s = l4 at HR4 HLL hl4
  have q2 := HP4.out.cell (i := 2) rfl
  clear hr4 ht4 hb4 HR3 HP3 HB3 HBB3 hs3
  go_wp2
  clear q2
  go_loopw [4, 37] (fun o i wr => ∃ (k : Nat) (v : Value), k ≤ m.i.length ∧ v = o ∧ i = .int .i64 k ∧ RowBy B wr o (l4 ++ iniB m k) ∧ Below B w4 wr) (fun _ i _ => m.i.length - (intOf i).toNat)
  case atStart => exact ⟨0, _, Nat.zero_le _, rfl, rfl, by simpa [iniB] using HR4.out, Below.refl _ _⟩
  case round =>
    clear HR4
    obtain ⟨k, o, hk, rfl, rfl, hR, hBw⟩ := hrel
    have HR4 : Hid (RowBy B wr o (l4 ++ iniB m k)) := hR
    have HBW : Hid (Below B w4 wr) := hBw
    have hsw : B ≤ wr.heap.size := Nat.le_trans hs4 hBw.size
    have HBX : Hid (Below w.heap.size w wr) := HB4.out.trans (hBw.mono (by omega))
    clear hR hBw
    have hd3 : m.i.length ≤ 4 := HD.out.2.2.1
    by_cases hlt : k < m.i.length
    · obtain ⟨b, off, rfl, hI⟩ := HI.out.resolve_left (by intro e; rw [e] at hlt; simp at hlt)
      have f0 := (HBX.out.cell (p := ⟨b, off + k, none⟩) hI.1).trans (hI.2 k hlt)
      have HJ : Hid (0 ≤ intAt m.i k ∧ intAt m.i k ≤ 999) := ok_int HOK.out hlt
      clear hI
      go_wp2_with fail
      clear f0
      refine (iTwo_any B _ _ _ _ hsw (by rw [List.length_append, iniB_length]; omega) HJ.out.1 (by have := HJ.out.2; omega) HR4.out).mono ?_
      rintro e w5 ⟨v5, rfl, hr5, ht5⟩
      have HR5 : Hid (RowBy B w5 v5 (l4 ++ iniB m k ++ twoB (intAt m.i k))) := hr5
      have HBW5 : Hid (Below B w4 w5) := HBW.out.trans (ht5.to_below (fun k e => row_ge HR4.out e) hsw)
      clear hr5 ht5
      go_wp2
      go_roundw
      case rel => exact ⟨k + 1, _, by omega, rfl, by go_num, by have := HR5.out; rw [List.append_assoc] at this; exact this, HBW5.out⟩
      case measure => simp [intOf]; omega
    · obtain rfl : k = m.i.length := by omega
      have hl5 : (l4 ++ iniB m m.i.length).length ≤ 15 := by rw [List.length_append, iniB_length]; omega
      generalize l4 ++ iniB m m.i.length = l5 at HR4 HLL hl5
      obtain ⟨W5, hW5⟩ : ∃ W5, W5 = wr := ⟨_, rfl⟩
      subst hW5
      have HP5 : Hid (Bk W5 w.heap.size 34 #[.int .i64 m.n, .int .i64 m.s, .slice ai m.i.length ci, .slice ah m.h.length ch, .slice ae m.e.length ce, .int .i64 m.z]) := HP4.out.keep HBW.out hwB
      have q3 := HP5.out.cell (i := 3) rfl
      clear HBW HP4 HB4 hs4
      go_wp2
      clear q3
      go_loopw [4, 48] (fun o i wr => ∃ (k : Nat) (v : Value), k ≤ m.h.length ∧ v = o ∧ i = .int .i64 k ∧ RowBy B wr o (l5 ++ rowsB m k) ∧ Below B W5 wr) (fun _ i _ => m.h.length - (intOf i).toNat)
      case atStart => exact ⟨0, _, Nat.zero_le _, rfl, rfl, by simpa [rowsB] using HR4.out, Below.refl _ _⟩
      case round =>
        clear HR4
        obtain ⟨k, o, hk, rfl, rfl, hR, hBw⟩ := hrel
        have HR4 : Hid (RowBy B wr o (l5 ++ rowsB m k)) := hR
        have HBW : Hid (Below B W5 wr) := hBw
        have hsw2 : B ≤ wr.heap.size := Nat.le_trans hsw hBw.size
        have HBY : Hid (Below w.heap.size w wr) := HBX.out.trans (hBw.mono (by omega))
        have hd4 : m.h.length ≤ 4 := HD.out.2.2.2.1
        clear hR hBw
        by_cases hlt : k < m.h.length
        · obtain ⟨b, off, rfl, hb, hc⟩ := HH.out.resolve_left (by intro e; rw [e] at hlt; simp at hlt)
          obtain ⟨u, f0, hu⟩ := hc k hlt
          replace f0 := (HBY.out.cell (p := ⟨b, off + k, none⟩) hb).trans f0
          have HU : Hid (∃ a cap, u = .slice a (hAt m.h k).length cap ∧ (hAt m.h k = [] ∨ ∃ b off, a = some ⟨b, off, none⟩ ∧ b < B ∧ OsAt wr b off (hAt m.h k))) := by
            obtain ⟨a, cap, e, _, _, h⟩ := hu
            exact ⟨a, cap, e, h.imp id (fun ⟨b, off, e, h⟩ => ⟨b, off, e, by have := h.1; omega, h.below HBY.out h.1⟩)⟩
          have HSM : Hid (∀ q, q < (hAt m.h k).length → small (oAt (hAt m.h k) q)) := fun q hq => ok_small HOK.out hlt hq
          have HR8 : Hid ((hAt m.h k).length ≤ 8) := ok_row HOK.out k
          obtain ⟨a1, c1, rfl, _⟩ := hu
          clear hc
          go_wp2_with fail
          clear f0
          refine (handler_any B _ _ _ (hAt m.h k) _ hsw2 (by have := rowsB_length HOK.out k; rw [List.length_append]; omega) (by have := HR8.out; omega) HSM.out HR4.out HU.out).mono ?_
          rintro e w5 ⟨v5, rfl, hr5, hb5⟩
          have HR5 : Hid (RowBy B w5 v5 (l5 ++ rowsB m k ++ rowBs (hAt m.h k))) := hr5
          have HBW5 : Hid (Below B W5 w5) := HBW.out.trans hb5
          clear hr5 hb5
          go_wp2
          go_roundw
          case rel => exact ⟨k + 1, _, by omega, rfl, by go_num, by have := HR5.out; rw [List.append_assoc] at this; exact this, HBW5.out⟩
          case measure => simp [intOf]; omega
        · obtain rfl : k = m.h.length := by omega
          have hl6 : (l5 ++ rowsB m m.h.length).length ≤ 300 := by have := rowsB_length HOK.out m.h.length; rw [List.length_append]; omega
          generalize l5 ++ rowsB m m.h.length = l6 at HR4 HLL hl6
          obtain ⟨W6, hW6⟩ : ∃ W6, W6 = wr := ⟨_, rfl⟩
          subst hW6
          have HP6 : Hid (Bk W6 w.heap.size 34 #[.int .i64 m.n, .int .i64 m.s, .slice ai m.i.length ci, .slice ah m.h.length ch, .slice ae m.e.length ce, .int .i64 m.z]) := HP5.out.keep HBW.out hwB
          have q4 := HP6.out.cell (i := 4) rfl
          clear HBW HP5 HBX hsw
          go_wp2
          clear q4
          go_loopw [4, 59] (fun o i wr => ∃ (k : Nat) (v : Value), k ≤ m.e.length ∧ v = o ∧ i = .int .i64 k ∧ RowBy B wr o (l6 ++ evsB m k) ∧ Below B W6 wr) (fun _ i _ => m.e.length - (intOf i).toNat)
          case atStart => exact ⟨0, _, Nat.zero_le _, rfl, rfl, by simpa [evsB] using HR4.out, Below.refl _ _⟩
          case round =>
            clear HR4
            obtain ⟨k, o, hk, rfl, rfl, hR, hBw⟩ := hrel
            have HR4 : Hid (RowBy B wr o (l6 ++ evsB m k)) := hR
            have HBW : Hid (Below B W6 wr) := hBw
            have hsw3 : B ≤ wr.heap.size := Nat.le_trans hsw2 hBw.size
            have HBZ : Hid (Below w.heap.size w wr) := HBY.out.trans (hBw.mono (by omega))
            have hd5 : m.e.length ≤ 6 := HD.out.2.2.2.2
            clear hR hBw
            by_cases hlt : k < m.e.length
            · obtain ⟨b, off, rfl, hb, hc⟩ := HEV.out.resolve_left (by intro e; rw [e] at hlt; simp at hlt)
              obtain ⟨f0, f1, f2, f3, f4, f5, f6⟩ := (hc k hlt).below HBZ.out hb
              have HEB : Hid (evsB m (k + 1) = evsB m k ++ evB (evAt m.e k)) := rfl
              generalize hev : evAt m.e k = e at f0 f1 f2 f3 f4 f5 f6 HEB
              obtain ⟨t, s1, qq, d, kk, v, g⟩ := e
              have HEO : Hid ((0 ≤ t ∧ t ≤ 1000) ∧ (0 ≤ d ∧ d ≤ 3) ∧ (0 ≤ kk ∧ kk ≤ 3) ∧ 0 ≤ v ∧ v ≤ 999) := ok_ev HOK.out hlt hev
              clear hc hev
              obtain ⟨V, hV⟩ : ∃ V, wr.alloc (.cells #[.int .i64 t, .int .i64 s1, .int .i64 qq, .int .i64 d, .int .i64 kk, .int .i64 v, .int .i64 g] 70) = V := ⟨_, rfl⟩
              have hbV : Below wr.heap.size wr V := hV ▸ (Below.refl _ wr).alloc (Nat.le_refl _) _
              have HRV : Hid (RowBy B V o (l6 ++ evsB m k)) := HR4.out.below hbV
              have HBV : Hid (Below B W6 V) := HBW.out.trans (hbV.mono hsw3)
              have hQV : Bk V wr.heap.size 70 #[.int .i64 t, .int .i64 s1, .int .i64 qq, .int .i64 d, .int .i64 kk, .int .i64 v, .int .i64 g] := hV ▸ Bk.new _ _ _
              have hsV : B ≤ V.heap.size := Nat.le_trans hsw3 hbV.size
              have e0 := hQV.cell (i := 0) rfl
              have e1 := hQV.cell (i := 1) rfl
              have e2 := hQV.cell (i := 2) rfl
              have e3 := hQV.cell (i := 3) rfl
              have e4 := hQV.cell (i := 4) rfl
              have e5 := hQV.cell (i := 5) rfl
              have e6 := hQV.cell (i := 6) rfl
              clear hbV hQV
              go_wp2_with fail
              clear f0 f1 f2 f3 f4 f5 f6 e0 e1 e2 e3 e4 e5 e6 hV
              refine (start_any B _ _ _ _ _ _ _ _ _ _ hsV (by rw [List.length_append, evsB_length]; omega) HEO.out.1.1 (by have := HEO.out.1.2; omega) HEO.out.2.1.1 (by have := HEO.out.2.1.2; omega) HEO.out.2.2.1.1 (by have := HEO.out.2.2.1.2; omega) HEO.out.2.2.2.1 (by have := HEO.out.2.2.2.2; omega) HRV.out).mono ?_
              rintro e w5 ⟨v5, rfl, hr5, hb5⟩
              have HR5 : Hid (RowBy B w5 v5 (l6 ++ evsB m (k + 1))) := by rw [HEB.out, ← List.append_assoc]; exact hr5
              have HBW5 : Hid (Below B W6 w5) := HBV.out.trans hb5
              clear hr5 hb5
              go_wp2
              go_roundw
              case rel => exact ⟨k + 1, _, by omega, rfl, by go_num, HR5.out, HBW5.out⟩
              case measure => simp [intOf]; omega
            · obtain rfl : k = m.e.length := by omega
              go_wp2
              go_ret2
              exact ⟨o, by rw [HOK.out]; rfl, by rw [HE.out, HLL.out]; exact HR4.out.own.mono (Nat.le_of_lt hwB), HBZ.out⟩
end Go.Proofs.Ythjabkfnmcodbaa
