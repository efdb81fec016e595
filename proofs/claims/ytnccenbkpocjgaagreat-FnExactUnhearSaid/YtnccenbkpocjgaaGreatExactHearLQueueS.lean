/- The specification's QueueOk. -/
import Derived.Test.YtnccenbkpocjgaaGreatExactHearG01
import Derived.Test.YtnccenbkpocjgaaGreatExactHearG15
import Derived.Test.YtnccenbkpocjgaaGreatExactHearG04
namespace Go.Proofs.YtnccenbkpocjgaaGreat
open Go.RowKit
set_option maxHeartbeats 2000000 in
theorem sQueue_any (x : Value) (l : List Ev) (w : World) (hl : l.length ≤ 1048576) (hx : IsEvs w x l) :
  Calls Tryz.prog 105 #[x] w fun e w' => Says e (GoodQ l) ∧ Below w.heap.size w w' := by
 obtain ⟨a, cap, rfl, h1, h2, h⟩ := hx
 clear h1 h2
 by_cases hz : l = []
 ·subst hz
  clear h
  go_enter Tryz.func105, Tryz.ntmps105
  go_wp2
  go_loop [3] (fun i => i = .int .i64 0) (fun _ => 0)
  case atStart => rfl
  case round =>
   subst hrel
   go_wp2
   go_ret
   exact ⟨Says.yes ⟨by simp, fun i hi => by simp at hi⟩, Below.refl _ _⟩
 ·obtain ⟨b, off, rfl, hb, hc⟩ := h.resolve_left hz
  clear h hz
  have HC : Hid (∀ i, i < l.length → Ev.In w b (off + i * 7) (evAt l i)) := hc
  clear hc
  go_enter Tryz.func105, Tryz.ntmps105
  go_wp2
  go_loopw [3, 4] (fun i _ wr => ∃ k : Nat, k ≤ l.length ∧ i = .int .i64 k ∧ Below w.heap.size w wr ∧ Hid (∀ i, i < k → Good1 l i)) (fun i _ _ => l.length - (intOf i).toNat)
  case atStart => exact ⟨0, Nat.zero_le _, rfl, Below.refl _ _, fun i hi => by omega⟩
  case round =>
   obtain ⟨k, hk, rfl, hB, HG⟩ := hrel
   have HB : Hid (Below w.heap.size w wr) := hB
   by_cases hlt : k < l.length
   ·have hbr : b < wr.heap.size := Nat.lt_of_lt_of_le hb hB.size
    obtain ⟨f0, f1, f2, f3, f4, f5, f6⟩ := ((HC.out k hlt).below hB hb).beyond hbr
    have hkn : (k : Int) < (l.length : Int) := by omega
    cases hok : (evAt l k).ok
    ·have HOK : Hid ((evAt l k).ok = false) := hok
     clear hok hB
     have hne : Nonempty (Beyond wr) := ⟨⟨wr, Below.refl _ _⟩⟩
     go_wp2_with fail
     refine wp_region_beyond (by kernel_rfl) (by kernel_rfl) ?_
     repeat (go_big_quiet_step (first | (go_at_call 55; exact Beyond.of (sOk_ev (evAt l k) false HOK.out _))))
     refine wpQuiet_nil ?_
     rintro w2 ⟨⟨_, hb2⟩, rfl⟩
     clear f0 f1 f2 f3 f4 f5 f6
     go_wp2
     go_ret
     exact ⟨Says.no (no_good hlt (fun h => by rw [Good1, HOK.out] at h; cases h.1)), HB.out.trans (hb2.mono HB.out.size)⟩
    ·have HOK : Hid ((evAt l k).ok = true) := hok
     clear hok
     -- the test ahead of the inner loop, at place 0 and behind it
     have inner : ∀ w2 : World, Hid (Below w.heap.size w w2) → Hid (0 < k → (evAt l (k - 1)).cmp (evAt l k) < 0) → True := fun _ _ _ => trivial
     clear inner
     have hne : Nonempty (Beyond wr) := ⟨⟨wr, Below.refl _ _⟩⟩
     by_cases hk0 : k = 0
     ·have hd : decide (0 < k) = false := by simp; omega
      have HK : Hid (k = 0) := hk0
      clear hk0 hB
      go_wp2_with fail
      refine wp_region_beyond (by kernel_rfl) (by kernel_rfl) ?_
      repeat (go_big_quiet_step (first | (go_at_call 55; exact Beyond.of (sOk_ev (evAt l k) true HOK.out _))))
      refine wpQuiet_nil ?_
      rintro w2 ⟨⟨_, hb2⟩, rfl⟩
      clear f0 f1 f2 f3 f4 f5 f6 hne hd
      have HB2 : Hid (Below w.heap.size w w2) := HB.out.trans (hb2.mono HB.out.size)
      clear hb2 hbr
      clear HB
      go_wp2
      go_loopw [4] (fun j wr2 => ∃ j0 : Nat, j0 ≤ k ∧ j = .int .i64 j0 ∧ Hid (Below w.heap.size w wr2) ∧ Hid (∀ i, i < j0 → (evAt l i).g ≠ (evAt l k).g)) (fun j _ => k - (intOf j).toNat)
      case atStart => exact ⟨0, Nat.zero_le _, rfl, HB2, fun i hi => by omega⟩
      case round =>
       clear HB2
       obtain ⟨j0, hj, rfl, HB3, HT⟩ := hrel
       by_cases hjl : j0 < k
       ·have hbr3 : b < wr.heap.size := Nat.lt_of_lt_of_le hb HB3.out.size
        have fk := (((HC.out k hlt).below HB3.out hb).beyond hbr3).2.2.2.2.2.2
        have fj := (((HC.out j0 (by omega)).below HB3.out hb).beyond hbr3).2.2.2.2.2.2
        have hne : Nonempty (Beyond wr) := ⟨⟨wr, Below.refl _ _⟩⟩
        have hjn : (j0 : Int) < (l.length : Int) := by omega
        have hjk : (j0 : Int) < (k : Int) := by omega
        by_cases hg : (evAt l j0).g = (evAt l k).g
        ·have hge : ((evAt l j0).g == (evAt l k).g) = true := by simpa using hg
         have HE : Hid ((evAt l j0).g = (evAt l k).g) := hg
         clear hg
         go_wp2_with fail
         refine wp_region_beyond (by kernel_rfl) (by kernel_rfl) ?_
         repeat (go_big_quiet_step (fail))
         refine wpQuiet_nil ?_
         rintro w3 ⟨⟨_, hb3⟩, rfl⟩
         clear fk fj hne
         go_wp2
         go_ret
         exact ⟨Says.no (no_good hlt (fun h => h.2.2 j0 hjl HE.out)), HB3.out.trans (hb3.mono HB3.out.size)⟩
        ·have hge : ((evAt l j0).g == (evAt l k).g) = false := by simpa using hg
         have HE : Hid (¬ (evAt l j0).g = (evAt l k).g) := hg
         clear hg
         go_wp2_with fail
         refine wp_region_beyond (by kernel_rfl) (by kernel_rfl) ?_
         repeat (go_big_quiet_step (fail))
         refine wpQuiet_nil ?_
         rintro w3 ⟨⟨_, hb3⟩, rfl⟩
         clear fk fj hne
         go_wp2
         go_roundw
         case rel => exact ⟨j0 + 1, by omega, by go_num, HB3.out.trans (hb3.mono HB3.out.size), fun i hi => by
          by_cases e : i = j0
          ·subst e; exact HE.out
          ·exact HT.out i (by omega)⟩
         case measure => simp [intOf]; omega
       ·go_wp2
        go_roundw
        case rel => exact ⟨k + 1, by omega, by go_num, HB3.out, fun i hi => by
         by_cases e : i = k
         ·subst e; exact ⟨HOK.out, fun h => absurd h (by have := HK.out; omega), fun j hj => HT.out j (by omega)⟩
         ·exact HG.out i (by omega)⟩
        case measure => simp [intOf]; omega
     ·have hd : decide (0 < k) = true := by simp; omega
      have hkp : (1 : Int) ≤ (k : Int) := by omega
      have ek : ((k : Int) - 1).toNat = k - 1 := by omega
      obtain ⟨e0, e1, e2, e3, e4, e5, e6⟩ := ((HC.out (k - 1) (by omega)).below hB hb).beyond hbr
      have HK : Hid (¬ k = 0) := hk0
      clear hk0 hB
      generalize hz : (evAt l (k - 1)).cmp (evAt l k) = z
      have HZ : Hid ((evAt l (k - 1)).cmp (evAt l k) = z) := hz
      clear hz
      by_cases hz0 : 0 ≤ z
      ·have hdz : decide ((0 : Int) ≤ z) = true := by simpa using hz0
       go_wp2_with fail
       refine wp_region_beyond (by kernel_rfl) (by kernel_rfl) ?_
       repeat (go_big_quiet_step (first | (go_at_call 55; exact Beyond.of (sOk_ev (evAt l k) true HOK.out _)) | (go_at_call 109; exact Beyond.of (l1cmp_ev (evAt l (k - 1)) (evAt l k) z HZ.out _))))
       refine wpQuiet_nil ?_
       rintro w2 ⟨⟨_, hb2⟩, rfl⟩
       clear f0 f1 f2 f3 f4 f5 f6 e0 e1 e2 e3 e4 e5 e6 hne hd
       go_wp2
       go_ret
       exact ⟨Says.no (no_good hlt (fun h => by have h2 := h.2.1 (by have := HK.out; omega); rw [HZ.out] at h2; omega)), HB.out.trans (hb2.mono HB.out.size)⟩
      ·have hdz : decide ((0 : Int) ≤ z) = false := by simpa using hz0
       go_wp2_with fail
       refine wp_region_beyond (by kernel_rfl) (by kernel_rfl) ?_
       repeat (go_big_quiet_step (first | (go_at_call 55; exact Beyond.of (sOk_ev (evAt l k) true HOK.out _)) | (go_at_call 109; exact Beyond.of (l1cmp_ev (evAt l (k - 1)) (evAt l k) z HZ.out _))))
       refine wpQuiet_nil ?_
       rintro w2 ⟨⟨_, hb2⟩, rfl⟩
       clear f0 f1 f2 f3 f4 f5 f6 e0 e1 e2 e3 e4 e5 e6 hne hd
       have HB2 : Hid (Below w.heap.size w w2) := HB.out.trans (hb2.mono HB.out.size)
       clear hb2 hbr
       clear HB
       go_wp2
       go_loopw [4] (fun j wr2 => ∃ j0 : Nat, j0 ≤ k ∧ j = .int .i64 j0 ∧ Hid (Below w.heap.size w wr2) ∧ Hid (∀ i, i < j0 → (evAt l i).g ≠ (evAt l k).g)) (fun j _ => k - (intOf j).toNat)
       case atStart => exact ⟨0, Nat.zero_le _, rfl, HB2, fun i hi => by omega⟩
       case round =>
        clear HB2
        obtain ⟨j0, hj, rfl, HB3, HT⟩ := hrel
        by_cases hjl : j0 < k
        ·have hbr3 : b < wr.heap.size := Nat.lt_of_lt_of_le hb HB3.out.size
         have fk := (((HC.out k hlt).below HB3.out hb).beyond hbr3).2.2.2.2.2.2
         have fj := (((HC.out j0 (by omega)).below HB3.out hb).beyond hbr3).2.2.2.2.2.2
         have hne : Nonempty (Beyond wr) := ⟨⟨wr, Below.refl _ _⟩⟩
         have hjn : (j0 : Int) < (l.length : Int) := by omega
         have hjk : (j0 : Int) < (k : Int) := by omega
         by_cases hg : (evAt l j0).g = (evAt l k).g
         ·have hge : ((evAt l j0).g == (evAt l k).g) = true := by simpa using hg
          have HE : Hid ((evAt l j0).g = (evAt l k).g) := hg
          clear hg
          go_wp2_with fail
          refine wp_region_beyond (by kernel_rfl) (by kernel_rfl) ?_
          repeat (go_big_quiet_step (fail))
          refine wpQuiet_nil ?_
          rintro w3 ⟨⟨_, hb3⟩, rfl⟩
          clear fk fj hne
          go_wp2
          go_ret
          exact ⟨Says.no (no_good hlt (fun h => h.2.2 j0 hjl HE.out)), HB3.out.trans (hb3.mono HB3.out.size)⟩
         ·have hge : ((evAt l j0).g == (evAt l k).g) = false := by simpa using hg
          have HE : Hid (¬ (evAt l j0).g = (evAt l k).g) := hg
          clear hg
          go_wp2_with fail
          refine wp_region_beyond (by kernel_rfl) (by kernel_rfl) ?_
          repeat (go_big_quiet_step (fail))
          refine wpQuiet_nil ?_
          rintro w3 ⟨⟨_, hb3⟩, rfl⟩
          clear fk fj hne
          go_wp2
          go_roundw
          case rel => exact ⟨j0 + 1, by omega, by go_num, HB3.out.trans (hb3.mono HB3.out.size), fun i hi => by
           by_cases e : i = j0
           ·subst e; exact HE.out
           ·exact HT.out i (by omega)⟩
          case measure => simp [intOf]; omega
        ·go_wp2
         go_roundw
         case rel => exact ⟨k + 1, by omega, by go_num, HB3.out, fun i hi => by
          by_cases e : i = k
          ·subst e; exact ⟨HOK.out, fun _ => by rw [HZ.out]; omega, fun j hj => HT.out j (by omega)⟩
          ·exact HG.out i (by omega)⟩
         case measure => simp [intOf]; omega
   ·clear hB
    go_wp2
    go_ret
    exact ⟨Says.dec ⟨fun h => ⟨by omega, fun i hi => HG.out i (by omega)⟩, fun h => by have := h.1; omega⟩, HB.out⟩
end Go.Proofs.YtnccenbkpocjgaaGreat
