/- slices.BinarySearchFunc over what was done. -/
import Derived.Test.YtdcnimdhfhbdmaaExactTrimG30
import Derived.Sort.BigQuietIn
namespace Go.Proofs.Ytdcnimdhfhbdmaa
open Go.RowKit
def FoundP (l : List Ps) (e : Ev) (r : Ending) : Prop := ∃ (i : Nat) (f : Bool), r = .returned (.tuple #[.int .i64 (i : Int), .bool f]) ∧ i ≤ l.length ∧ (i = 0 ∨ (psAt l (i - 1)).e.ecmp e < 0) ∧ (i < l.length → ¬ (psAt l i).e.ecmp e < 0)
set_option maxRecDepth 100000 in
set_option maxHeartbeats 8000000 in
theorem searchPast_any (x : Value) (l : List Ps) (e : Ev) (w : World) (hl : l.length ≤ 1048577) (h : IsD w x (pastsD l)) :
    Calls Try.prog 36 #[x, .agg #[.int .i64 e.t, .int .i64 e.s, .int .i64 e.q, .int .i64 e.d, .int .i64 e.k, .int .i64 e.v, .int .i64 e.g], .func (.func 37) #[] #[]] w fun r w' => FoundP l e r ∧ Below w.heap.size w w' := by
  obtain ⟨a4, c4, rfl, _⟩ := IsD.len h
  obtain ⟨W0, hW0⟩ : ∃ W0, w.alloc (.cells #[.int .i64 e.t, .int .i64 e.s, .int .i64 e.q, .int .i64 e.d, .int .i64 e.k, .int .i64 e.v, .int .i64 e.g] 40) = W0 := ⟨_, rfl⟩
  have HE0 : Hid (Bk W0 w.heap.size 40 #[.int .i64 e.t, .int .i64 e.s, .int .i64 e.q, .int .i64 e.d, .int .i64 e.k, .int .i64 e.v, .int .i64 e.g]) := hW0 ▸ Bk.new w _ _
  have HB0 : Hid (Below w.heap.size w W0) := by rw [← hW0]; exact (Below.refl _ w).alloc (Nat.le_refl _) _
  have hs0 : W0.heap.size = w.heap.size + 1 := by rw [← hW0]; simp
  have HI0 : Hid (IsD W0 (.slice a4 l.length c4) (pastsD l)) := h.under HB0.out
  clear h
  go_enter Try.func36, Try.ntmps36
  go_wp2
  clear hW0
  go_loopw [9, 10] (fun i j wr => ∃ x y : Nat, x ≤ y ∧ y ≤ l.length ∧ i = .int .i64 x ∧ j = .int .i64 y ∧ Hid (Below W0.heap.size W0 wr) ∧ Hid (x = 0 ∨ (psAt l (x - 1)).e.ecmp e < 0) ∧ Hid (y < l.length → ¬ (psAt l y).e.ecmp e < 0)) (fun i j _ => (intOf j).toNat - (intOf i).toNat)
  case atStart => exact ⟨0, l.length, Nat.zero_le _, Nat.le_refl _, rfl, rfl, Below.refl _ _, .inl rfl, fun h => absurd h (Nat.lt_irrefl _)⟩
  case round =>
    obtain ⟨x, y, hxy, hyn, rfl, rfl, HB, HL, HU⟩ := hrel
    have hsz : W0.heap.size ≤ wr.heap.size := HB.out.size
    have hne : Nonempty (Beyond wr) := ⟨⟨wr, Below.refl _ _⟩⟩
    have HE : Hid (Bk wr w.heap.size 40 #[.int .i64 e.t, .int .i64 e.s, .int .i64 e.q, .int .i64 e.d, .int .i64 e.k, .int .i64 e.v, .int .i64 e.g]) := HE0.out.below HB.out
    have HI : Hid (IsD wr (.slice a4 l.length c4) (pastsD l)) := HI0.out.under HB.out
    by_cases hlt : x < y
    · have hxi : (x : Int) < (y : Int) := by omega
      have hsum : (x : Int) + (y : Int) ≤ 2097154 := by omega
      go_wp2_with fail
      obtain ⟨h, hh⟩ : ∃ h : Nat, ((x : Int) + (y : Int)) / 2 = (h : Int) := ⟨(x + y) / 2, by omega⟩
      rw [hh]
      have hh1 : x ≤ h := by omega
      have hh2 : h < y := by omega
      clear hh
      have hhn : (h : Int) < (l.length : Int) := by omega
      have hh0 : (0 : Int) ≤ (h : Int) := by omega
      obtain ⟨a4', cap4, he4, _, _, h4⟩ := IsD.parts (c := 12) (n := l.length) HI.out
      obtain ⟨b, off, ha4, hb4, hc4⟩ := h4.resolve_left (by omega)
      obtain ⟨rfl, rfl⟩ : a4 = a4' ∧ c4 = cap4 := by simpa using he4
      subst ha4
      obtain ⟨u7, u10, u11, k0, k1, k2, k3, k4, k5, k6, k7, k8, k9, k10, k11, d7, d10, d11⟩ := pastsD_in hc4 (by omega : h < l.length)
      obtain ⟨a7, c7, rfl, _⟩ := IsD.len d7
      obtain ⟨a10, c10, rfl, _⟩ := IsD.len d10
      obtain ⟨a11, c11, rfl, _⟩ := IsD.len d11
      have f0 : ∀ q : Beyond wr, q.w.cell? ⟨b, off + h * 12, none⟩ = _ := fun q => q.cell hb4 k0
      have f1 : ∀ q : Beyond wr, q.w.cell? ⟨b, off + h * 12 + 1, none⟩ = _ := fun q => q.cell hb4 k1
      have f2 : ∀ q : Beyond wr, q.w.cell? ⟨b, off + h * 12 + 2, none⟩ = _ := fun q => q.cell hb4 k2
      have f3 : ∀ q : Beyond wr, q.w.cell? ⟨b, off + h * 12 + 3, none⟩ = _ := fun q => q.cell hb4 k3
      have f4 : ∀ q : Beyond wr, q.w.cell? ⟨b, off + h * 12 + 4, none⟩ = _ := fun q => q.cell hb4 k4
      have f5 : ∀ q : Beyond wr, q.w.cell? ⟨b, off + h * 12 + 5, none⟩ = _ := fun q => q.cell hb4 k5
      have f6 : ∀ q : Beyond wr, q.w.cell? ⟨b, off + h * 12 + 6, none⟩ = _ := fun q => q.cell hb4 k6
      have f7 : ∀ q : Beyond wr, q.w.cell? ⟨b, off + h * 12 + 7, none⟩ = _ := fun q => q.cell hb4 k7
      have f8 : ∀ q : Beyond wr, q.w.cell? ⟨b, off + h * 12 + 8, none⟩ = _ := fun q => q.cell hb4 k8
      have f9 : ∀ q : Beyond wr, q.w.cell? ⟨b, off + h * 12 + 9, none⟩ = _ := fun q => q.cell hb4 k9
      have f10 : ∀ q : Beyond wr, q.w.cell? ⟨b, off + h * 12 + 10, none⟩ = _ := fun q => q.cell hb4 k10
      have f11 : ∀ q : Beyond wr, q.w.cell? ⟨b, off + h * 12 + 11, none⟩ = _ := fun q => q.cell hb4 k11
      have g0 := HE.out.beyond (i := 0) rfl
      have g1 := HE.out.beyond (i := 1) rfl
      have g2 := HE.out.beyond (i := 2) rfl
      have g3 := HE.out.beyond (i := 3) rfl
      have g4 := HE.out.beyond (i := 4) rfl
      have g5 := HE.out.beyond (i := 5) rfl
      have g6 := HE.out.beyond (i := 6) rfl
      clear k0 k1 k2 k3 k4 k5 k6 k7 k8 k9 k10 k11 hc4 h4 he4 d7 d10 d11
      generalize hz : (psAt l h).e.ecmp e = z
      have HZ : Hid ((psAt l h).e.ecmp e = z) := hz
      clear hz
      by_cases hzl : z < 0
      · have hdz : decide (z < 0) = true := by simpa using hzl
        refine wp_region_beyond (by kernel_rfl) (by kernel_rfl) ?_
        repeat (go_big_quiet_step (first | (go_at_call 37; exact Beyond.of (pastCmp_any _ _ _ _ (psAt l h) e z HZ.out _ ⟨_, _, _, rfl⟩ ⟨_, _, _, rfl⟩ ⟨_, _, _, rfl⟩ rfl))))
        refine wpQuiet_nil ?_
        rintro w2 ⟨⟨_, hb2⟩, rfl⟩
        clear hne f0 f1 f2 f3 f4 f5 f6 f7 f8 f9 f10 f11 g0 g1 g2 g3 g4 g5 g6
        go_wp2
        go_roundw
        case rel => exact ⟨h + 1, y, by omega, hyn, by go_num, rfl, HB.out.trans (hb2.mono hsz), .inr (by rw [Nat.add_sub_cancel, HZ.out]; omega), fun hy => by have := HU.out hy; omega⟩
        case measure => simp [intOf]; omega
      · have hdz : decide (z < 0) = false := by simpa using hzl
        refine wp_region_beyond (by kernel_rfl) (by kernel_rfl) ?_
        repeat (go_big_quiet_step (first | (go_at_call 37; exact Beyond.of (pastCmp_any _ _ _ _ (psAt l h) e z HZ.out _ ⟨_, _, _, rfl⟩ ⟨_, _, _, rfl⟩ ⟨_, _, _, rfl⟩ rfl))))
        refine wpQuiet_nil ?_
        rintro w2 ⟨⟨_, hb2⟩, rfl⟩
        clear hne f0 f1 f2 f3 f4 f5 f6 f7 f8 f9 f10 f11 g0 g1 g2 g3 g4 g5 g6
        go_wp2
        go_roundw
        case rel => exact ⟨x, h, hh1, by omega, rfl, rfl, HB.out.trans (hb2.mono hsz), HL.out, fun _ => by rw [HZ.out]; omega⟩
        case measure => simp [intOf]; omega
    · obtain rfl : x = y := by omega
      clear hlt
      go_wp2_with fail
      by_cases hxn : x < l.length
      · have hd : decide (x < l.length) = true := by simpa using hxn
        have hxi : (x : Int) < (l.length : Int) := by omega
        obtain ⟨a4', cap4, he4, _, _, h4⟩ := IsD.parts (c := 12) (n := l.length) HI.out
        obtain ⟨b, off, ha4, hb4, hc4⟩ := h4.resolve_left (by omega)
        obtain ⟨rfl, rfl⟩ : a4 = a4' ∧ c4 = cap4 := by simpa using he4
        subst ha4
        obtain ⟨u7, u10, u11, k0, k1, k2, k3, k4, k5, k6, k7, k8, k9, k10, k11, d7, d10, d11⟩ := pastsD_in hc4 (hxn : x < l.length)
        obtain ⟨a7, c7, rfl, _⟩ := IsD.len d7
        obtain ⟨a10, c10, rfl, _⟩ := IsD.len d10
        obtain ⟨a11, c11, rfl, _⟩ := IsD.len d11
        have f0 : ∀ q : Beyond wr, q.w.cell? ⟨b, off + x * 12, none⟩ = _ := fun q => q.cell hb4 k0
        have f1 : ∀ q : Beyond wr, q.w.cell? ⟨b, off + x * 12 + 1, none⟩ = _ := fun q => q.cell hb4 k1
        have f2 : ∀ q : Beyond wr, q.w.cell? ⟨b, off + x * 12 + 2, none⟩ = _ := fun q => q.cell hb4 k2
        have f3 : ∀ q : Beyond wr, q.w.cell? ⟨b, off + x * 12 + 3, none⟩ = _ := fun q => q.cell hb4 k3
        have f4 : ∀ q : Beyond wr, q.w.cell? ⟨b, off + x * 12 + 4, none⟩ = _ := fun q => q.cell hb4 k4
        have f5 : ∀ q : Beyond wr, q.w.cell? ⟨b, off + x * 12 + 5, none⟩ = _ := fun q => q.cell hb4 k5
        have f6 : ∀ q : Beyond wr, q.w.cell? ⟨b, off + x * 12 + 6, none⟩ = _ := fun q => q.cell hb4 k6
        have f7 : ∀ q : Beyond wr, q.w.cell? ⟨b, off + x * 12 + 7, none⟩ = _ := fun q => q.cell hb4 k7
        have f8 : ∀ q : Beyond wr, q.w.cell? ⟨b, off + x * 12 + 8, none⟩ = _ := fun q => q.cell hb4 k8
        have f9 : ∀ q : Beyond wr, q.w.cell? ⟨b, off + x * 12 + 9, none⟩ = _ := fun q => q.cell hb4 k9
        have f10 : ∀ q : Beyond wr, q.w.cell? ⟨b, off + x * 12 + 10, none⟩ = _ := fun q => q.cell hb4 k10
        have f11 : ∀ q : Beyond wr, q.w.cell? ⟨b, off + x * 12 + 11, none⟩ = _ := fun q => q.cell hb4 k11
        have g0 := HE.out.beyond (i := 0) rfl
        have g1 := HE.out.beyond (i := 1) rfl
        have g2 := HE.out.beyond (i := 2) rfl
        have g3 := HE.out.beyond (i := 3) rfl
        have g4 := HE.out.beyond (i := 4) rfl
        have g5 := HE.out.beyond (i := 5) rfl
        have g6 := HE.out.beyond (i := 6) rfl
        clear k0 k1 k2 k3 k4 k5 k6 k7 k8 k9 k10 k11 hc4 h4 he4 d7 d10 d11
        generalize hz : (psAt l x).e.ecmp e = z
        have HZ : Hid ((psAt l x).e.ecmp e = z) := hz
        clear hz
        refine wp_region_beyond (by kernel_rfl) (by kernel_rfl) ?_
        repeat (go_big_quiet_step (first | (go_at_call 37; exact Beyond.of (pastCmp_any _ _ _ _ (psAt l x) e z HZ.out _ ⟨_, _, _, rfl⟩ ⟨_, _, _, rfl⟩ ⟨_, _, _, rfl⟩ rfl))))
        refine wpQuiet_nil ?_
        rintro w2 ⟨⟨_, hb2⟩, rfl⟩
        clear hne f0 f1 f2 f3 f4 f5 f6 f7 f8 f9 f10 f11 g0 g1 g2 g3 g4 g5 g6
        go_wp2
        go_ret2
        exact ⟨⟨x, _, rfl, hyn, HL.out, fun hy => by have := HU.out hy; omega⟩, HB0.out.trans ((HB.out.trans (hb2.mono hsz)).mono (by omega))⟩
      · have hd : decide (x < l.length) = false := by simpa using hxn
        have hxi : ¬ ((x : Int) < (l.length : Int)) := by omega
        refine wp_region_beyond (by kernel_rfl) (by kernel_rfl) ?_
        repeat (go_big_quiet_step (fail))
        refine wpQuiet_nil ?_
        rintro w2 ⟨⟨_, hb2⟩, rfl⟩
        clear hne
        go_wp2
        go_ret2
        exact ⟨⟨x, _, rfl, hyn, HL.out, fun hy => by have := HU.out hy; omega⟩, HB0.out.trans ((HB.out.trans (hb2.mono hsz)).mono (by omega))⟩
end Go.Proofs.Ytdcnimdhfhbdmaa
