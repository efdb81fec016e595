/- CmpI, LessI, Steps, Meth -/
import Derived.Test.YtbljfphdghfkfaaGreatDoorSequencesCardG10
import Derived.Test.YtbljfphdghfkfaaGreatDoorSequencesCardG23
import Derived.Test.YtbljfphdghfkfaaGreatDoorSequencesCardG00
import Derived.Deep.RegionHeld3
import Derived.Deep.DeepMust
import Derived.Test.YtbljfphdghfkfaaGreatDoorSequencesCardLSwapI
import Derived.Test.YtbljfphdghfkfaaGreatDoorSequencesCardLQuiet
/- The program's EventCmp. -/
namespace Go.Proofs.YtbljfphdghfkfaaGreatDoor
open Go.RowKit
theorem num_zero (a b : Int) : num a b = 0 ↔ a = b := by unfold num; split <;> (try split) <;> omega
theorem orL_cmp (t s q g t' s' q' g' : Int) : orL [num t t', num s s', num q q', num g g'] = cmpI t s q g t' s' q' g' := by
 unfold cmpI
 by_cases h1 : t = t'
 ·by_cases h2 : s = s'
  ·by_cases h3 : q = q'
   ·by_cases h4 : g = g' <;> simp [orL, num_zero, h1, h2, h3, h4]
    ·exact ((num_zero _ _).2 rfl).symm
   ·simp [orL, num_zero, h1, h2, h3]
  ·simp [orL, num_zero, h1, h2]
 ·simp [orL, num_zero, h1]
theorem iOk_is (t s q d k v g : Int) (b : Bool) (h : okB t s q d k v g = b) (w : World) :
  Calls Tryz.prog 66 #[.agg #[.int .i64 t, .int .i64 s, .int .i64 q, .int .i64 d, .int .i64 k, .int .i64 v, .int .i64 g]] w fun e w' => e = .returned (.bool b) ∧ Below w.heap.size w w' := by
 subst h; exact iOk_any t s q d k v g w
set_option maxHeartbeats 2000000 in
theorem iCmp_any (t s q d k v g t' s' q' d' k' v' g' : Int) (w : World) :
  Calls Tryz.prog 192 #[.agg #[.int .i64 t, .int .i64 s, .int .i64 q, .int .i64 d, .int .i64 k, .int .i64 v, .int .i64 g], .agg #[.int .i64 t', .int .i64 s', .int .i64 q', .int .i64 d', .int .i64 k', .int .i64 v', .int .i64 g']] w fun e w' =>
   e = .returned (.int .i64 (ecmp t s q d k v g t' s' q' d' k' v' g')) ∧ Below w.heap.size w w' := by
 cases h1 : okB t s q d k v g
 ·have H1 : Hid (okB t s q d k v g = false) := h1
  clear h1
  go_enter Tryz.func192, Tryz.ntmps192
  go_wp2_with fail
  refine (iOk_is t s q d k v g false H1.out _).mono ?_
  rintro e w1 ⟨rfl, hb1⟩
  go_wp2_with fail
  go_ret
  exact ⟨ret_int (by simp [ecmp, H1.out]), (((Below.refl _ _).alloc (Nat.le_refl _) _).alloc (by simp) _).trans (hb1.mono (by simp; omega))⟩
 ·have H1 : Hid (okB t s q d k v g = true) := h1
  clear h1
  cases h2 : okB t' s' q' d' k' v' g'
  ·have H2 : Hid (okB t' s' q' d' k' v' g' = false) := h2
   clear h2
   go_enter Tryz.func192, Tryz.ntmps192
   go_wp2_with fail
   refine (iOk_is t s q d k v g true H1.out _).mono ?_
   rintro e w1 ⟨rfl, hb1⟩
   obtain ⟨hc, hf⟩ := bcell hb1
   go_wp2_with fail
   refine (iOk_is t' s' q' d' k' v' g' false H2.out _).mono ?_
   rintro e w2 ⟨rfl, hb2⟩
   go_wp2_with fail
   go_ret
   exact ⟨ret_int (by simp [ecmp, H1.out, H2.out]), ((((Below.refl _ _).alloc (Nat.le_refl _) _).alloc (by simp) _).trans (hb1.mono (by simp; omega))).trans (hb2.mono (by have := hb1.size; simp at this; omega))⟩
  ·have H2 : Hid (okB t' s' q' d' k' v' g' = true) := h2
   clear h2
   go_enter Tryz.func192, Tryz.ntmps192
   go_wp2_with fail
   refine (iOk_is t s q d k v g true H1.out _).mono ?_
   rintro e w1 ⟨rfl, hb1⟩
   obtain ⟨hc, hf⟩ := bcell hb1
   go_wp2_with fail
   refine (iOk_is t' s' q' d' k' v' g' true H2.out _).mono ?_
   rintro e w2 ⟨rfl, hb2⟩
   have hz1 : w.heap.size + 1 < w1.heap.size := by have := hb1.size; simp at this; omega
   have hz2 : w.heap.size + 1 < w2.heap.size := by have := hb2.size; omega
   obtain ⟨hc2, hf2⟩ := bcell hb2
   have f0 : w2.cell? ⟨w.heap.size, 0, none⟩ = some (.int .i64 t) := by rw [hc2 _ _ (by omega), hc _ _ (by simp; omega)]; simp
   have f1 : w2.cell? ⟨w.heap.size, 1, none⟩ = some (.int .i64 s) := by rw [hc2 _ _ (by omega), hc _ _ (by simp; omega)]; simp
   have f2 : w2.cell? ⟨w.heap.size, 2, none⟩ = some (.int .i64 q) := by rw [hc2 _ _ (by omega), hc _ _ (by simp; omega)]; simp
   have f6 : w2.cell? ⟨w.heap.size, 6, none⟩ = some (.int .i64 g) := by rw [hc2 _ _ (by omega), hc _ _ (by simp; omega)]; simp
   have e0 : w2.cell? ⟨w.heap.size + 1, 0, none⟩ = some (.int .i64 t') := by rw [hc2 _ _ (by omega), hc _ _ (by simp)]; simp
   have e1 : w2.cell? ⟨w.heap.size + 1, 1, none⟩ = some (.int .i64 s') := by rw [hc2 _ _ (by omega), hc _ _ (by simp)]; simp
   have e2 : w2.cell? ⟨w.heap.size + 1, 2, none⟩ = some (.int .i64 q') := by rw [hc2 _ _ (by omega), hc _ _ (by simp)]; simp
   have e6 : w2.cell? ⟨w.heap.size + 1, 6, none⟩ = some (.int .i64 g') := by rw [hc2 _ _ (by omega), hc _ _ (by simp)]; simp
   have hB : Below w.heap.size w w2 := ((((Below.refl _ _).alloc (Nat.le_refl _) _).alloc (by simp) _).trans (hb1.mono (by simp; omega))).trans (hb2.mono (by omega))
   clear hc hf hc2 hf2 hb1 hb2 hz1
   go_wp2_with fail
   go_region_held3 (fun W => W.cell? ⟨w.heap.size, 0, none⟩ = some (.int .i64 t) ∧ W.cell? ⟨w.heap.size, 1, none⟩ = some (.int .i64 s) ∧ W.cell? ⟨w.heap.size, 2, none⟩ = some (.int .i64 q) ∧ W.cell? ⟨w.heap.size, 6, none⟩ = some (.int .i64 g) ∧ W.cell? ⟨w.heap.size + 1, 0, none⟩ = some (.int .i64 t') ∧ W.cell? ⟨w.heap.size + 1, 1, none⟩ = some (.int .i64 s') ∧ W.cell? ⟨w.heap.size + 1, 2, none⟩ = some (.int .i64 q') ∧ W.cell? ⟨w.heap.size + 1, 6, none⟩ = some (.int .i64 g')) (go_keep)
    (first
     | (go_at_call 194; refine (compare_any _ _ _).mono ?_; rintro e w' ⟨rfl, rfl⟩)
     | (go_at_call 193; refine (or_any _ _ [num t t', num s s', num q q', num g g'] _ ?_ ?_).mono ?_; (simp [maxLen]); (intro i hi; have h4 : i = 0 ∨ i = 1 ∨ i = 2 ∨ i = 3 := (by simp at hi; omega); rcases h4 with rfl | rfl | rfl | rfl <;> simp); rintro e w' ⟨rfl, rfl⟩))
   go_wp2
   go_ret
   exact ⟨ret_int (by rw [orL_cmp]; simp [ecmp, H1.out, H2.out]), hB.drew.alloc (by simp; omega) _⟩
end Go.Proofs.YtbljfphdghfkfaaGreatDoor

/- The pile's Less. -/
namespace Go.Proofs.YtbljfphdghfkfaaGreatDoor
open Go.RowKit
theorem cmpI_range (t s q g t' s' q' g' : Int) : cmpI t s q g t' s' q' g' = -1 ∨ 0 ≤ cmpI t s q g t' s' q' g' := by
 unfold cmpI num
 split <;> (try split) <;> (try split) <;> (try split) <;> (try split) <;> omega
theorem iCmp_ok (a b : Ev) (ha : a.ok = true) (hb : b.ok = true) (z : Int) (hz : a.cmp b = z) (w : World) : Calls Tryz.prog 192 #[a.val, b.val] w fun r w' => r = .returned (.int .i64 z) ∧ Below w.heap.size w w' := by
 refine (iCmp_any a.t a.s a.q a.d a.k a.v a.g b.t b.s b.q b.d b.k b.v b.g w).mono ?_
 rintro e w' ⟨rfl, h⟩
 refine ⟨?_, h⟩
 rw [← hz]
 unfold ecmp Ev.cmp
 rw [if_pos ⟨ha, hb⟩]
set_option maxRecDepth 100000 in
set_option maxHeartbeats 4000000 in
theorem less_any (B P g cap : Nat) (l : List Ev) (i k : Nat) (w : World) (hP : w.cell? ⟨P, 0, none⟩ = some (.slice (some ⟨g, 0, none⟩) l.length cap)) (hPw : P < w.heap.size) (hR : Row w B g cap l) (hi : i < l.length) (hk : k < l.length) (hoi : (evAt l i).ok = true) (hok : (evAt l k).ok = true) (b : Bool) (hb : decide ((evAt l i).cmp (evAt l k) < 0) = b) :
  Calls Tryz.prog 187 #[.pointer (some ⟨P, 0, none⟩), .int .i64 (i : Int), .int .i64 (k : Int)] w fun e w' => e = .returned (.bool b) ∧ Below w.heap.size w w' := by
 have hg : g < w.heap.size := hR.lt.2
 obtain ⟨z, hz⟩ : ∃ z, (evAt l i).cmp (evAt l k) = z := ⟨_, rfl⟩
 have HC : Hid (∀ w, Calls Tryz.prog 192 #[(evAt l i).val, (evAt l k).val] w fun r w' => r = .returned (.int .i64 z) ∧ Below w.heap.size w w') := iCmp_ok _ _ hoi hok z hz
 have hzb : (z == -1) = b := by
  rw [← hb]
  have := cmpI_range (evAt l i).t (evAt l i).s (evAt l i).q (evAt l i).g (evAt l k).t (evAt l k).s (evAt l k).q (evAt l k).g
  unfold Ev.cmp at hz ⊢
  rw [hz] at this ⊢
  by_cases h : z = -1
  ·subst h; rfl
  ·have h0 : ¬ z < 0 := by omega
   simp [h, h0]
 have hcP : ∀ p : Beyond w, p.w.cell? ⟨P, 0, none⟩ = some (.slice (some ⟨g, 0, none⟩) l.length cap) := fun p => p.cell hPw hP
 obtain ⟨f0, f1, f2, f3, f4, f5, f6⟩ := (hR.ev hi).beyond hg
 obtain ⟨e0, e1, e2, e3, e4, e5, e6⟩ := (hR.ev hk).beyond hg
 have hi1 : (i : Int) < (l.length : Int) := by omega
 have hk1 : (k : Int) < (l.length : Int) := by omega
 have hne : Nonempty (Beyond w) := ⟨⟨w, Below.refl _ _⟩⟩
 clear hR hP hb hz hoi hok
 go_enter Tryz.func187, Tryz.ntmps187
 go_wp2_with fail
 refine wp_region_beyond (by kernel_rfl) (by kernel_rfl) ?_
 repeat (go_big_quiet_step (first | (go_at_call 192; exact Beyond.of (HC.out _))))
 refine wpQuiet_nil ?_
 rintro w2 ⟨⟨_, hb2⟩, rfl⟩
 clear f0 f1 f2 f3 f4 f5 f6 e0 e1 e2 e3 e4 e5 e6 hne hcP
 go_wp2
 go_ret
 exact ⟨rfl, hb2⟩
end Go.Proofs.YtbljfphdghfkfaaGreatDoor

/- One step of lifting, one of sinking. -/
namespace Go.Proofs.YtbljfphdghfkfaaGreatDoor
theorem upL_step {l : List Ev} {i p : Nat} (hp : (i - 1) / 2 = p) (hi : p < i) (hc : (evAt l i).cmp (evAt l p) < 0) : upL (swp l i p) p = upL l i := by
 subst hp; exact (upL_go (by omega) hc).symm
theorem downL_step {l : List Ev} {n i k : Nat} (hk : pickL l n i = k) (hne : k ≠ i) : downL (swp l i k) n k = downL l n i := by
 subst hk; exact (downL_go hne).symm
theorem pick_none {l : List Ev} {n i : Nat} (h : ¬ 2 * i + 1 < n) : pickL l n i = i := by
 rw [pick_lib, if_neg h]
theorem lib_right {l : List Ev} {n i : Nat} (h2 : 2 * i + 2 < n) (b : (evAt l (2 * i + 2)).cmp (evAt l (2 * i + 1)) < 0) (c : (evAt l (2 * i + 2)).cmp (evAt l i) < 0) : pickL l n i = 2 * i + 2 := by
 rw [pick_lib, if_pos (by omega), if_pos ⟨h2, b⟩, if_pos c]
theorem lib_right_stay {l : List Ev} {n i : Nat} (h2 : 2 * i + 2 < n) (b : (evAt l (2 * i + 2)).cmp (evAt l (2 * i + 1)) < 0) (c : ¬ (evAt l (2 * i + 2)).cmp (evAt l i) < 0) : pickL l n i = i := by
 rw [pick_lib, if_pos (by omega), if_pos ⟨h2, b⟩, if_neg c]
theorem lib_left {l : List Ev} {n i : Nat} (h1 : 2 * i + 1 < n) (b : ¬ (2 * i + 2 < n ∧ (evAt l (2 * i + 2)).cmp (evAt l (2 * i + 1)) < 0)) (c : (evAt l (2 * i + 1)).cmp (evAt l i) < 0) : pickL l n i = 2 * i + 1 := by
 rw [pick_lib, if_pos h1, if_neg b, if_pos c]
theorem lib_left_stay {l : List Ev} {n i : Nat} (h1 : 2 * i + 1 < n) (b : ¬ (2 * i + 2 < n ∧ (evAt l (2 * i + 2)).cmp (evAt l (2 * i + 1)) < 0)) (c : ¬ (evAt l (2 * i + 1)).cmp (evAt l i) < 0) : pickL l n i = i := by
 rw [pick_lib, if_pos h1, if_neg b, if_neg c]
end Go.Proofs.YtbljfphdghfkfaaGreatDoor

/- Which methods a pile has. -/
namespace Go.Proofs.YtbljfphdghfkfaaGreatDoor
open Go.RowKit
abbrev pv (P : Nat) : Value := .iface 160 (.pointer (some ⟨P, 0, none⟩))
theorem m_len (P : Nat) (w : World) : (method 355 160 (.pointer (some ⟨P, 0, none⟩)) "Len").run Tryz.prog w = .ok (186, .pointer (some ⟨P, 0, none⟩)) w := by kernel_rfl
theorem m_less (P : Nat) (w : World) : (method 355 160 (.pointer (some ⟨P, 0, none⟩)) "Less").run Tryz.prog w = .ok (187, .pointer (some ⟨P, 0, none⟩)) w := by kernel_rfl
theorem m_swap (P : Nat) (w : World) : (method 355 160 (.pointer (some ⟨P, 0, none⟩)) "Swap").run Tryz.prog w = .ok (190, .pointer (some ⟨P, 0, none⟩)) w := by kernel_rfl
theorem m_push (P : Nat) (w : World) : (method 355 160 (.pointer (some ⟨P, 0, none⟩)) "Push").run Tryz.prog w = .ok (189, .pointer (some ⟨P, 0, none⟩)) w := by kernel_rfl
theorem m_pop (P : Nat) (w : World) : (method 355 160 (.pointer (some ⟨P, 0, none⟩)) "Pop").run Tryz.prog w = .ok (188, .pointer (some ⟨P, 0, none⟩)) w := by kernel_rfl
end Go.Proofs.YtbljfphdghfkfaaGreatDoor

