/- The two First. -/
import Derived.Test.YteecpandpkicmaaQueuesG14
namespace Go.Proofs.Yteecpandpkicmaa
open Go.RowKit

set_option maxHeartbeats 1000000 in
theorem iFirst_yes (b off cap : Nat) (l : List Ev) (w : World) (hl : l.length ≤ 1048576) (hI : EvsAt w b off l) (_hcap : l.length ≤ cap) (_hcm : cap ≤ maxLen) (hne : 0 < l.length) (hg : GoodQ l) :
    Calls Try.prog 11 #[.slice (some ⟨b, off, none⟩) l.length cap] w fun e w' => e = .returned (.tuple #[(evAt l 0).val, .bool true]) ∧ Below w.heap.size w w' := by
  have hB0 : Below w.heap.size w (w.alloc (.cells #[.int .i64 0, .int .i64 0, .int .i64 0, .int .i64 0, .int .i64 0, .int .i64 0, .int .i64 0] 25)) := (Below.refl _ w).alloc (Nat.le_refl _) _
  have HI : Hid (EvsAt (w.alloc (.cells #[.int .i64 0, .int .i64 0, .int .i64 0, .int .i64 0, .int .i64 0, .int .i64 0, .int .i64 0] 25)) b off l) := hI.below hB0 hI.1
  have hb := hI.1
  have HG : Hid (GoodQ l) := hg
  clear hI hg
  have hlen : ((l.length : Int) == 0) = false := beq_eq_false_iff_ne.2 (by omega)
  have hpos : (0 : Int) < (l.length : Int) := by omega
  have hn0 : ¬ l.length = 0 := by omega
  go_enter Try.func11, Try.ntmps11
  go_wp2_with fail
  refine (iQueue_parts _ cap b l _ hl (.inr ⟨off, rfl, HI.out⟩) HI.out.1).mono ?_
  rintro e w1 ⟨⟨bb, rfl, hs⟩, hb1⟩
  have hbb : bb = true := hs.2 HG.out
  subst hbb
  clear hs
  have hz1 : w.heap.size < w1.heap.size := by have := hb1.size; simp at this; omega
  obtain ⟨z0, z1, z2, z3, z4, z5, z6⟩ := ((EvAt.new w 25 0 0 0 0 0 0 0).below hb1 (by simp)).lits
  have hfz : ∀ o, w1.frozen? ⟨w.heap.size, o, none⟩ = false := fun o => (hb1.frozen (p := ⟨w.heap.size, o, none⟩) (by simp)).trans (by simp)
  obtain ⟨f0, f1, f2, f3, f4, f5, f6⟩ := (HI.out.2 0 hne).below hb1 (by simp; omega)
  simp only [Nat.zero_mul, Nat.add_zero] at f0 f1 f2 f3 f4 f5 f6
  have HB1 : Hid (Below w.heap.size w w1) := hB0.trans (hb1.mono (by simp))
  clear hb1 hB0
  go_wp2
  exact bodyPost_ret (v := .tuple #[(evAt l 0).val, .bool true]) (by simp [results, Try.results11, go_sem, z0, z1, z2, z3, z4, z5, z6]) rfl ⟨rfl, put7_below HB1.out (Nat.le_refl _) 0 (evAt l 0)⟩

set_option maxHeartbeats 1000000 in
theorem iFirst_bad (b off cap : Nat) (l : List Ev) (w : World) (hl : l.length ≤ 1048576) (hI : EvsAt w b off l) (_hcap : l.length ≤ cap) (_hcm : cap ≤ maxLen) (hne : 0 < l.length) (hg : ¬ GoodQ l) :
    Calls Try.prog 11 #[.slice (some ⟨b, off, none⟩) l.length cap] w fun e w' => e = .returned (.tuple #[.agg #[.int .i64 0, .int .i64 0, .int .i64 0, .int .i64 0, .int .i64 0, .int .i64 0, .int .i64 0], .bool false]) ∧ Below w.heap.size w w' := by
  have hB0 : Below w.heap.size w (w.alloc (.cells #[.int .i64 0, .int .i64 0, .int .i64 0, .int .i64 0, .int .i64 0, .int .i64 0, .int .i64 0] 25)) := (Below.refl _ w).alloc (Nat.le_refl _) _
  have HI : Hid (EvsAt (w.alloc (.cells #[.int .i64 0, .int .i64 0, .int .i64 0, .int .i64 0, .int .i64 0, .int .i64 0, .int .i64 0] 25)) b off l) := hI.below hB0 hI.1
  have hb := hI.1
  have HG : Hid (¬ GoodQ l) := hg
  clear hI hg
  have hlen : ((l.length : Int) == 0) = false := beq_eq_false_iff_ne.2 (by omega)
  have hpos : (0 : Int) < (l.length : Int) := by omega
  have hn0 : ¬ l.length = 0 := by omega
  go_enter Try.func11, Try.ntmps11
  go_wp2_with fail
  refine (iQueue_parts _ cap b l _ hl (.inr ⟨off, rfl, HI.out⟩) HI.out.1).mono ?_
  rintro e w1 ⟨⟨bb, rfl, hs⟩, hb1⟩
  have hbb : bb = false := by cases bb with | false => rfl | true => exact (HG.out (hs.1 rfl)).elim
  subst hbb
  clear hs
  have hz1 : w.heap.size < w1.heap.size := by have := hb1.size; simp at this; omega
  obtain ⟨z0, z1, z2, z3, z4, z5, z6⟩ := ((EvAt.new w 25 0 0 0 0 0 0 0).below hb1 (by simp)).lits
  have hfz : ∀ o, w1.frozen? ⟨w.heap.size, o, none⟩ = false := fun o => (hb1.frozen (p := ⟨w.heap.size, o, none⟩) (by simp)).trans (by simp)
  have HB1 : Hid (Below w.heap.size w w1) := hB0.trans (hb1.mono (by simp))
  clear hb1 hB0
  go_wp2
  exact bodyPost_ret (v := .tuple #[.agg #[.int .i64 0, .int .i64 0, .int .i64 0, .int .i64 0, .int .i64 0, .int .i64 0, .int .i64 0], .bool false]) (by simp [results, Try.results11, go_sem, z0, z1, z2, z3, z4, z5, z6]) rfl ⟨rfl, put7_below HB1.out (Nat.le_refl _) 0 (⟨0, 0, 0, 0, 0, 0, 0⟩ : Ev)⟩

set_option maxHeartbeats 1000000 in
theorem iFirst_nil (a : Option Addr) (cap : Nat) (w : World) :
    Calls Try.prog 11 #[.slice a 0 cap] w fun e w' => e = .returned (.tuple #[.agg #[.int .i64 0, .int .i64 0, .int .i64 0, .int .i64 0, .int .i64 0, .int .i64 0, .int .i64 0], .bool false]) ∧ Below w.heap.size w w' := by
  go_enter Try.func11, Try.ntmps11
  go_wp2
  exact bodyPost_ret (v := .tuple #[.agg #[.int .i64 0, .int .i64 0, .int .i64 0, .int .i64 0, .int .i64 0, .int .i64 0, .int .i64 0], .bool false]) (by simp [results, Try.results11, go_sem]) rfl ⟨rfl, (Below.refl _ w).alloc (Nat.le_refl _) _⟩

/- Both give the same, whatever the list. -/
end Go.Proofs.Yteecpandpkicmaa
