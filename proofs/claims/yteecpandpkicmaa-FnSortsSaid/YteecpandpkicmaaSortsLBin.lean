/- slices.BinarySearchFunc at the program's events and its EventCmp. -/
import Derived.Test.YteecpandpkicmaaSortsLInsS
namespace Go.Proofs.Yteecpandpkicmaa
open Go.RowKit
/- Where the search ends: what is ahead is less, what is there is not. -/
def CutAt (l : List Ev) (e : Ev) (i : Nat) : Prop := i ≤ l.length ∧ (i = 0 ∨ (evAt l (i - 1)).ecmp e < 0) ∧ (i < l.length → ¬ (evAt l i).ecmp e < 0)
def Found (l : List Ev) (e : Ev) (r : Ending) : Prop := ∃ (i : Nat) (f : Bool), r = .returned (.tuple #[.int .i64 (i : Int), .bool f]) ∧ CutAt l e i
set_option maxHeartbeats 4000000 in
theorem search_any (b off cap : Nat) (l : List Ev) (e : Ev) (w : World) (hl : l.length ≤ 1048576) (hI : EvsAt w b off l) :
    Calls Try.prog 32 #[.slice (some ⟨b, off, none⟩) l.length cap, e.val, .func (.func 12) #[] #[]] w fun r w' => Found l e r ∧ Below w.heap.size w w' := by
  obtain ⟨W0, hW0⟩ : ∃ W0, w.alloc (.cells #[.int .i64 e.t, .int .i64 e.s, .int .i64 e.q, .int .i64 e.d, .int .i64 e.k, .int .i64 e.v, .int .i64 e.g] 25) = W0 := ⟨_, rfl⟩
  have HE0 : Hid (Ev.In W0 w.heap.size 0 e) := by rw [← hW0]; exact EvAt.new _ _ _ _ _ _ _ _ _
  have HB0 : Hid (Below w.heap.size w W0) := by rw [← hW0]; exact (Below.refl _ w).alloc (Nat.le_refl _) _
  have hs0 : W0.heap.size = w.heap.size + 1 := by rw [← hW0]; simp
  have HI0 : Hid (EvsAt W0 b off l) := hI.below HB0.out hI.1
  have hb := hI.1
  clear hI
  go_enter Try.func32, Try.ntmps32
  go_wp2
  clear hW0
  go_loopw [9, 10] (fun i j wr => ∃ x y : Nat, x ≤ y ∧ y ≤ l.length ∧ i = .int .i64 x ∧ j = .int .i64 y ∧ Hid (Below W0.heap.size W0 wr) ∧ Hid (x = 0 ∨ (evAt l (x - 1)).ecmp e < 0) ∧ Hid (y < l.length → ¬ (evAt l y).ecmp e < 0)) (fun i j _ => (intOf j).toNat - (intOf i).toNat)
  case atStart => exact ⟨0, l.length, Nat.zero_le _, Nat.le_refl _, rfl, rfl, Below.refl _ _, .inl rfl, fun h => absurd h (Nat.lt_irrefl _)⟩
  case round =>
    obtain ⟨x, y, hxy, hyn, rfl, rfl, HB, HL, HU⟩ := hrel
    have hsz : W0.heap.size ≤ wr.heap.size := HB.out.size
    have hne : Nonempty (Beyond wr) := ⟨⟨wr, Below.refl _ _⟩⟩
    have HE : Hid (Ev.In wr w.heap.size 0 e) := HE0.out.below HB.out (by omega)
    have HI : Hid (EvsAt wr b off l) := HI0.out.below HB.out (by omega)
    by_cases hlt : x < y
    · have hxi : (x : Int) < (y : Int) := by omega
      have hsum : (x : Int) + (y : Int) ≤ 2097152 := by omega
      go_wp2_with fail
      obtain ⟨h, hh⟩ : ∃ h : Nat, ((x : Int) + (y : Int)) / 2 = (h : Int) := ⟨(x + y) / 2, by omega⟩
      rw [hh]
      have hh1 : x ≤ h := by omega
      have hh2 : h < y := by omega
      clear hh
      have hhn : (h : Int) < (l.length : Int) := by omega
      have hh0 : (0 : Int) ≤ (h : Int) := by omega
      obtain ⟨f0, f1, f2, f3, f4, f5, f6⟩ := (HI.out.2 h (by omega)).beyond (by omega)
      obtain ⟨g0, g1, g2, g3, g4, g5, g6⟩ := HE.out.beyond (by omega)
      simp only [Nat.zero_add] at g0 g1 g2 g3 g4 g5 g6
      generalize hz : (evAt l h).ecmp e = z
      have HZ : Hid ((evAt l h).ecmp e = z) := hz
      clear hz
      by_cases hzl : z < 0
      · have hdz : decide (z < 0) = true := by simpa using hzl
        refine wp_region_beyond (by kernel_rfl) (by kernel_rfl) ?_
        repeat (go_big_quiet_step (first | (go_at_call 12; exact Beyond.of (iCmp_ev (evAt l h) e z HZ.out _))))
        refine wpQuiet_nil ?_
        rintro w2 ⟨⟨_, hb2⟩, rfl⟩
        clear f0 f1 f2 f3 f4 f5 f6 g0 g1 g2 g3 g4 g5 g6 hne
        go_wp2
        go_roundw
        case rel => exact ⟨h + 1, y, by omega, hyn, by go_num, rfl, HB.out.trans (hb2.mono hsz), .inr (by rw [Nat.add_sub_cancel, HZ.out]; omega), fun hy => by have := HU.out hy; omega⟩
        case measure => simp [intOf]; omega
      · have hdz : decide (z < 0) = false := by simpa using hzl
        refine wp_region_beyond (by kernel_rfl) (by kernel_rfl) ?_
        repeat (go_big_quiet_step (first | (go_at_call 12; exact Beyond.of (iCmp_ev (evAt l h) e z HZ.out _))))
        refine wpQuiet_nil ?_
        rintro w2 ⟨⟨_, hb2⟩, rfl⟩
        clear f0 f1 f2 f3 f4 f5 f6 g0 g1 g2 g3 g4 g5 g6 hne
        go_wp2
        go_roundw
        case rel => exact ⟨x, h, hh1, by omega, rfl, rfl, HB.out.trans (hb2.mono hsz), HL.out, fun _ => by rw [HZ.out]; omega⟩
        case measure => simp [intOf]; omega
    · obtain rfl : x = y := by omega
      clear hlt
      go_wp2_with fail
      by_cases hxn : x < l.length
      · have hd : decide (x < l.length) = true := by simpa using hxn
        have hxi : (x : Int) < (l.length : Int) := by omega
        obtain ⟨f0, f1, f2, f3, f4, f5, f6⟩ := (HI.out.2 x hxn).beyond (by omega)
        obtain ⟨g0, g1, g2, g3, g4, g5, g6⟩ := HE.out.beyond (by omega)
        simp only [Nat.zero_add] at g0 g1 g2 g3 g4 g5 g6
        generalize hz : (evAt l x).ecmp e = z
        have HZ : Hid ((evAt l x).ecmp e = z) := hz
        clear hz
        refine wp_region_beyond (by kernel_rfl) (by kernel_rfl) ?_
        repeat (go_big_quiet_step (first | (go_at_call 12; exact Beyond.of (iCmp_ev (evAt l x) e z HZ.out _))))
        refine wpQuiet_nil ?_
        rintro w2 ⟨⟨_, hb2⟩, rfl⟩
        clear f0 f1 f2 f3 f4 f5 f6 g0 g1 g2 g3 g4 g5 g6 hne
        go_wp2
        go_ret2
        exact ⟨⟨x, _, rfl, hyn, HL.out, fun hy => by have := HU.out hy; omega⟩, HB0.out.trans ((HB.out.trans (hb2.mono hsz)).mono (by omega))⟩
      · have hd : decide (x < l.length) = false := by simpa using hxn
        have hxi : ¬ ((x : Int) < (l.length : Int)) := by omega
        refine wp_region_beyond (by kernel_rfl) (by kernel_rfl) ?_
        repeat (go_big_quiet_step (fail))
        refine wpQuiet_nil ?_
        rintro w2 ⟨⟨_, hb2⟩, rfl⟩
        clear hne
        go_wp2
        go_ret2
        exact ⟨⟨x, _, rfl, hyn, HL.out, fun hy => by have := HU.out hy; omega⟩, HB0.out.trans ((HB.out.trans (hb2.mono hsz)).mono (by omega))⟩
end Go.Proofs.Yteecpandpkicmaa
