/- The specification's HeapOk. -/
import Derived.Test.YthklekjglocbgabFind
import Derived.Test.YthklekjglocbgabAnswers
import Derived.Test.YthklekjglocbgabSays
import Derived.Test.YthklekjglocbgabSteps
namespace Go.Proofs.Ythklekjglocbgab
open Go.RowKit
def Good1H (l : List Ev) (i : Nat) : Prop := (evAt l i).ok = true ∧ (0 < i → (evAt l ((i - 1) / 2)).cmp (evAt l i) < 0) ∧ ∀ j, j < i → (evAt l j).g ≠ (evAt l i).g
def GoodH (l : List Ev) : Prop := l.length ≤ 2000 ∧ ∀ i, i < l.length → Good1H l i
theorem no_goodH {l : List Ev} {k : Nat} (hk : k < l.length) (h : ¬ Good1H l k) : ¬ GoodH l := fun e => (h (e.2 k hk)).elim
theorem find_some (b off cap : Nat) (l : List Ev) (tag : Int) (i : Nat) (w : World) (hl : l.length ≤ 1048576) (hI : EvsAt w b off l) (hi : FirstAt l tag i) :
    Calls Try.prog 34 #[.slice (some ⟨b, off, none⟩) l.length cap, .int .i64 tag] w fun e w' => e = .returned (.int .i64 (i : Int)) ∧ w' = w :=
  (find_any b off cap l tag w hl hI).mono fun e w' ⟨h, hw⟩ => by
    rcases h with ⟨j, rfl, hj⟩ | ⟨_, hno⟩
    · rw [firstAt_unique hi hj]; exact ⟨rfl, hw⟩
    · exact (hno i hi.1 hi.2.1).elim
theorem find_none (b off cap : Nat) (l : List Ev) (tag : Int) (w : World) (hl : l.length ≤ 1048576) (hI : EvsAt w b off l) (hn : NoTag l tag) :
    Calls Try.prog 34 #[.slice (some ⟨b, off, none⟩) l.length cap, .int .i64 tag] w fun e w' => e = .returned (.int .i64 (-1)) ∧ w' = w :=
  (find_any b off cap l tag w hl hI).mono fun e w' ⟨h, hw⟩ => by
    rcases h with ⟨j, rfl, hj⟩ | ⟨rfl, _⟩
    · exact (hn j hj.1 hj.2.1).elim
    · exact ⟨rfl, hw⟩
set_option maxRecDepth 100000 in
set_option maxHeartbeats 8000000 in
theorem sHeap_any (b off cap : Nat) (l : List Ev) (w : World) (hl : l.length ≤ 1048576) (hcap : l.length ≤ cap) (hcm : cap ≤ maxLen) (hI : EvsAt w b off l) :
    Calls Try.prog 32 #[.slice (some ⟨b, off, none⟩) l.length cap] w fun e w' => Says e (GoodH l) ∧ Below w.heap.size w w' := by
  have HC : Hid (EvsAt w b off l) := hI
  have hb : b < w.heap.size := hI.1
  unfold maxLen at hcm
  clear hI
  go_enter Try.func32, Try.ntmps32
  go_wp2
  go_loopw [3] (fun i wr => ∃ k : Nat, k ≤ l.length ∧ i = .int .i64 k ∧ Hid (Below w.heap.size w wr) ∧ Hid (∀ i, i < k → Good1H l i)) (fun i _ => l.length - (intOf i).toNat)
  case atStart => exact ⟨0, Nat.zero_le _, rfl, Below.refl _ _, fun i hi => by omega⟩
  case round =>
    obtain ⟨k, hk, rfl, HB, HG⟩ := hrel
    by_cases hlt : k < l.length
    · have hbr : b < wr.heap.size := Nat.lt_of_lt_of_le hb HB.out.size
      obtain ⟨f0, f1, f2, f3, f4, f5, f6⟩ := (((HC.out.2 k hlt).below HB.out hb)).beyond hbr
      have hkn : (k : Int) < (l.length : Int) := by omega
      have hkc : (k : Int) ≤ (cap : Int) := by omega
      have hne : Nonempty (Beyond wr) := ⟨⟨wr, Below.refl _ _⟩⟩
      cases hok : (evAt l k).ok
      · have HOK : Hid ((evAt l k).ok = false) := hok
        clear hok
        go_wp2_with fail
        refine wp_region_beyond (by kernel_rfl) (by kernel_rfl) ?_
        repeat (go_big_quiet_step (first | (go_at_call 57; exact Beyond.of (sOk_ev (evAt l k) false HOK.out _))))
        refine wpQuiet_nil ?_
        rintro w2 ⟨⟨_, hb2⟩, rfl⟩
        clear f0 f1 f2 f3 f4 f5 f6 hne
        go_wp2
        go_ret
        exact ⟨Says.no (no_goodH hlt (fun h => by have := h.1; rw [HOK.out] at this; cases this)), HB.out.trans (hb2.mono HB.out.size)⟩
      · have HOK : Hid ((evAt l k).ok = true) := hok
        clear hok
        by_cases hk0 : k = 0
        · have hd : decide (0 < k) = false := by simp; omega
          have HNT : Hid (∀ j, j < k → (evAt l j).g ≠ (evAt l k).g) := fun j hj => by omega
          have HFI : Hid (∀ q : Beyond wr, Calls Try.prog 34 #[.slice (some ⟨b, off, none⟩) k cap, .int .i64 (evAt l k).g] q.w fun e w'' => e = .returned (.int .i64 (-1)) ∧ ∃ p' : Beyond wr, w'' = p'.w) := fun q => by
            have h9 := find_none b off cap (l.take k) (evAt l k).g q.w (by simp; omega) ((HC.out.below HB.out hb).take k |>.below q.h hbr) (fun j hj => by simp at hj; omega)
            rw [show (l.take k).length = k from by simp; omega] at h9
            exact h9.mono fun e w'' ⟨h1, h2⟩ => ⟨h1, q, h2⟩
          have HK0 : Hid (k = 0) := hk0
          clear hk0
          go_wp2_with fail
          refine wp_region_beyond (by kernel_rfl) (by kernel_rfl) ?_
          repeat (go_big_quiet_step (first | (go_at_call 57; exact Beyond.of (sOk_ev (evAt l k) true HOK.out _)) | (go_at_call 34; exact HFI.out _)))
          refine wpQuiet_nil ?_
          rintro w2 ⟨⟨_, hb2⟩, rfl⟩
          clear f0 f1 f2 f3 f4 f5 f6 hne
          go_wp2
          go_roundw
          case rel => exact ⟨k + 1, by omega, by go_num, HB.out.trans (hb2.mono HB.out.size), fun i hi => by
            by_cases e : i = k
            · subst e; exact ⟨HOK.out, fun h => absurd h (by have := HK0.out; omega), HNT.out⟩
            · exact HG.out i (by omega)⟩
          case measure => simp [intOf]; omega
        · have hd : decide (0 < k) = true := by simp; omega
          have hkp : (1 : Int) ≤ (k : Int) := by omega
          obtain ⟨p, hp⟩ : ∃ p, (k - 1) / 2 = p := ⟨_, rfl⟩
          have HPP : Hid ((k - 1) / 2 = p) := hp
          have hpk : p < k := by omega
          have ek1 : ((k : Int) - 1) / 2 = (p : Int) := by omega
          have ek2 : ((k : Int) - 1).tdiv 2 = (p : Int) := by rw [Int.tdiv_eq_ediv_of_nonneg (by omega)]; exact ek1
          have hp1 : (p : Int) < (l.length : Int) := by omega
          clear hp hk0
          obtain ⟨e0, e1, e2, e3, e4, e5, e6⟩ := (((HC.out.2 p (by omega)).below HB.out hb)).beyond hbr
          obtain ⟨z, hz⟩ : ∃ z, (evAt l p).cmp (evAt l k) = z := ⟨_, rfl⟩
          have HZ : Hid ((evAt l p).cmp (evAt l k) = z) := hz
          clear hz
          by_cases hz0 : 0 ≤ z
          · have hdz : decide ((0 : Int) ≤ z) = true := by simpa using hz0
            go_wp2_with fail
            refine wp_region_beyond (by kernel_rfl) (by kernel_rfl) ?_
            repeat (go_big_quiet_step (first | (go_at_call 57; exact Beyond.of (sOk_ev (evAt l k) true HOK.out _)) | (go_at_call 58; exact Beyond.of (l1cmp_ev (evAt l p) (evAt l k) z HZ.out _))))
            refine wpQuiet_nil ?_
            rintro w2 ⟨⟨_, hb2⟩, rfl⟩
            clear f0 f1 f2 f3 f4 f5 f6 e0 e1 e2 e3 e4 e5 e6 hne
            go_wp2
            go_ret
            exact ⟨Says.no (no_goodH hlt (fun h => by have h2 := h.2.1 (by omega); rw [HPP.out, HZ.out] at h2; omega)), HB.out.trans (hb2.mono HB.out.size)⟩
          · have hdz : decide ((0 : Int) ≤ z) = false := by simpa using hz0
            have HZ0 : Hid (z < 0) := by unfold Hid; omega
            clear hz0
            rcases firstAt_or (l.take k) (evAt l k).g with ⟨i, hfi⟩ | hno
            · have hik : i < k := by have := hfi.1; simp at this; omega
              have HFT : Hid ((evAt l i).g = (evAt l k).g) := by have := hfi.2.1; rw [evAt_take _ _ _ hik] at this; exact this
              have hdi : decide ((0 : Int) ≤ (i : Int)) = true := by simp
              have HFI : Hid (∀ q : Beyond wr, Calls Try.prog 34 #[.slice (some ⟨b, off, none⟩) k cap, .int .i64 (evAt l k).g] q.w fun e w'' => e = .returned (.int .i64 (i : Int)) ∧ ∃ p' : Beyond wr, w'' = p'.w) := fun q => by
                have h9 := find_some b off cap (l.take k) (evAt l k).g i q.w (by simp; omega) ((HC.out.below HB.out hb).take k |>.below q.h hbr) hfi
                rw [show (l.take k).length = k from by simp; omega] at h9
                exact h9.mono fun e w'' ⟨h1, h2⟩ => ⟨h1, q, h2⟩
              clear hfi
              go_wp2_with fail
              refine wp_region_beyond (by kernel_rfl) (by kernel_rfl) ?_
              repeat (go_big_quiet_step (first | (go_at_call 57; exact Beyond.of (sOk_ev (evAt l k) true HOK.out _)) | (go_at_call 58; exact Beyond.of (l1cmp_ev (evAt l p) (evAt l k) z HZ.out _)) | (go_at_call 34; exact HFI.out _)))
              refine wpQuiet_nil ?_
              rintro w2 ⟨⟨_, hb2⟩, rfl⟩
              clear f0 f1 f2 f3 f4 f5 f6 e0 e1 e2 e3 e4 e5 e6 hne
              go_wp2
              go_ret
              exact ⟨Says.no (no_goodH hlt (fun h => h.2.2 i hik HFT.out)), HB.out.trans (hb2.mono HB.out.size)⟩
            · have HNT : Hid (∀ j, j < k → (evAt l j).g ≠ (evAt l k).g) := fun j hj => by have := hno j (by simp; omega); rwa [evAt_take _ _ _ hj] at this
              have HFI : Hid (∀ q : Beyond wr, Calls Try.prog 34 #[.slice (some ⟨b, off, none⟩) k cap, .int .i64 (evAt l k).g] q.w fun e w'' => e = .returned (.int .i64 (-1)) ∧ ∃ p' : Beyond wr, w'' = p'.w) := fun q => by
                have h9 := find_none b off cap (l.take k) (evAt l k).g q.w (by simp; omega) ((HC.out.below HB.out hb).take k |>.below q.h hbr) hno
                rw [show (l.take k).length = k from by simp; omega] at h9
                exact h9.mono fun e w'' ⟨h1, h2⟩ => ⟨h1, q, h2⟩
              clear hno
              go_wp2_with fail
              refine wp_region_beyond (by kernel_rfl) (by kernel_rfl) ?_
              repeat (go_big_quiet_step (first | (go_at_call 57; exact Beyond.of (sOk_ev (evAt l k) true HOK.out _)) | (go_at_call 58; exact Beyond.of (l1cmp_ev (evAt l p) (evAt l k) z HZ.out _)) | (go_at_call 34; exact HFI.out _)))
              refine wpQuiet_nil ?_
              rintro w2 ⟨⟨_, hb2⟩, rfl⟩
              clear f0 f1 f2 f3 f4 f5 f6 e0 e1 e2 e3 e4 e5 e6 hne
              go_wp2
              go_roundw
              case rel => exact ⟨k + 1, by omega, by go_num, HB.out.trans (hb2.mono HB.out.size), fun i hi => by
                by_cases e : i = k
                · subst e; exact ⟨HOK.out, fun _ => by rw [HPP.out, HZ.out]; exact HZ0.out, HNT.out⟩
                · exact HG.out i (by omega)⟩
              case measure => simp [intOf]; omega
    · go_wp2
      go_ret
      exact ⟨Says.dec ⟨fun h => ⟨by omega, fun i hi => HG.out i (by omega)⟩, fun h => by have := h.1; omega⟩, HB.out⟩
end Go.Proofs.Ythklekjglocbgab
