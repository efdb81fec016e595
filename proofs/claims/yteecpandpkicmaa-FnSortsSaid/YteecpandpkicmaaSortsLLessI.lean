/- The pile's Less. -/
import Derived.Test.YteecpandpkicmaaSortsLSwapI
import Derived.Test.YteecpandpkicmaaSortsG09
import Derived.Test.YteecpandpkicmaaSortsG04
namespace Go.Proofs.Yteecpandpkicmaa
open Go.RowKit
theorem cmpI_range (t s q g t' s' q' g' : Int) : cmpI t s q g t' s' q' g' = -1 ∨ 0 ≤ cmpI t s q g t' s' q' g' := by
  unfold cmpI num
  split <;> (try split) <;> (try split) <;> (try split) <;> (try split) <;> omega
theorem iCmp_ok (a b : Ev) (ha : a.ok = true) (hb : b.ok = true) (z : Int) (hz : a.cmp b = z) (w : World) : Calls Try.prog 12 #[a.val, b.val] w fun r w' => r = .returned (.int .i64 z) ∧ Below w.heap.size w w' := by
  refine (iCmp_any a.t a.s a.q a.d a.k a.v a.g b.t b.s b.q b.d b.k b.v b.g w).mono ?_
  rintro e w' ⟨rfl, h⟩
  refine ⟨?_, h⟩
  rw [← hz]
  unfold ecmp Ev.cmp
  rw [if_pos ⟨ha, hb⟩]

set_option maxRecDepth 100000 in
set_option maxHeartbeats 4000000 in
theorem less_any (B P g cap : Nat) (l : List Ev) (i k : Nat) (w : World) (hP : w.cell? ⟨P, 0, none⟩ = some (.slice (some ⟨g, 0, none⟩) l.length cap)) (hPw : P < w.heap.size) (hR : Row w B g cap l) (hi : i < l.length) (hk : k < l.length) (hoi : (evAt l i).ok = true) (hok : (evAt l k).ok = true) (b : Bool) (hb : decide ((evAt l i).cmp (evAt l k) < 0) = b) :
    Calls Try.prog 87 #[.pointer (some ⟨P, 0, none⟩), .int .i64 (i : Int), .int .i64 (k : Int)] w fun e w' => e = .returned (.bool b) ∧ Below w.heap.size w w' := by
  have hg : g < w.heap.size := hR.lt.2
  obtain ⟨z, hz⟩ : ∃ z, (evAt l i).cmp (evAt l k) = z := ⟨_, rfl⟩
  have HC : Hid (∀ w, Calls Try.prog 12 #[(evAt l i).val, (evAt l k).val] w fun r w' => r = .returned (.int .i64 z) ∧ Below w.heap.size w w') := iCmp_ok _ _ hoi hok z hz
  have hzb : (z == -1) = b := by
    rw [← hb]
    have := cmpI_range (evAt l i).t (evAt l i).s (evAt l i).q (evAt l i).g (evAt l k).t (evAt l k).s (evAt l k).q (evAt l k).g
    unfold Ev.cmp at hz ⊢
    rw [hz] at this ⊢
    by_cases h : z = -1
    · subst h; rfl
    · have h0 : ¬ z < 0 := by omega
      simp [h, h0]
  have hcP : ∀ p : Beyond w, p.w.cell? ⟨P, 0, none⟩ = some (.slice (some ⟨g, 0, none⟩) l.length cap) := fun p => p.cell hPw hP
  obtain ⟨f0, f1, f2, f3, f4, f5, f6⟩ := (hR.ev hi).beyond hg
  obtain ⟨e0, e1, e2, e3, e4, e5, e6⟩ := (hR.ev hk).beyond hg
  have hi1 : (i : Int) < (l.length : Int) := by omega
  have hk1 : (k : Int) < (l.length : Int) := by omega
  have hne : Nonempty (Beyond w) := ⟨⟨w, Below.refl _ _⟩⟩
  clear hR hP hb hz hoi hok
  go_enter Try.func87, Try.ntmps87
  go_wp2_with fail
  refine wp_region_beyond (by kernel_rfl) (by kernel_rfl) ?_
  repeat (go_big_quiet_step (first | (go_at_call 12; exact Beyond.of (HC.out _))))
  refine wpQuiet_nil ?_
  rintro w2 ⟨⟨_, hb2⟩, rfl⟩
  clear f0 f1 f2 f3 f4 f5 f6 e0 e1 e2 e3 e4 e5 e6 hne hcP
  go_wp2
  go_ret
  exact ⟨rfl, hb2⟩
end Go.Proofs.Yteecpandpkicmaa
