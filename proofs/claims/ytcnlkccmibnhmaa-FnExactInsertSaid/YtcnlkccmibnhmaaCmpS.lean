/- The specification's l1cmp and EventCmp. -/
import Derived.Test.YtcnlkccmibnhmaaKit
import Derived.Test.YtcnlkccmibnhmaaOkS
namespace Go.Proofs.Ytcnlkccmibnhmaa
open Go.RowKit
set_option maxHeartbeats 2000000 in
theorem l1cmp_any (t s q d k v g t' s' q' d' k' v' g' : Int) (w : World) :
    Calls Try.prog 29 #[.agg #[.int .i64 t, .int .i64 s, .int .i64 q, .int .i64 d, .int .i64 k, .int .i64 v, .int .i64 g], .agg #[.int .i64 t', .int .i64 s', .int .i64 q', .int .i64 d', .int .i64 k', .int .i64 v', .int .i64 g']] w fun e w' =>
      e = .returned (.int .i64 (cmpI t s q g t' s' q' g')) ∧ Below w.heap.size w w' := by
  have hb : ∀ o1 o2 : Obj, Below w.heap.size w ((w.alloc o1).alloc o2) := fun o1 o2 => ((Below.refl _ _).alloc (Nat.le_refl _) o1).alloc (by simp) o2
  by_cases h1 : t = t'
  · subst h1
    by_cases h2 : s = s'
    · subst h2
      by_cases h3 : q = q'
      · subst h3
        go_enter Try.func29, Try.ntmps29
        go_wp2_with (go_at_call 44; refine (num_any _ _ _).mono ?_; rintro e w' ⟨rfl, rfl⟩)
        go_ret
        exact ⟨ret_int (by simp [cmpI]), hb _ _⟩
      · have e3 : (q != q') = true := by simpa using h3
        go_enter Try.func29, Try.ntmps29
        go_wp2_with (go_at_call 44; refine (num_any _ _ _).mono ?_; rintro e w' ⟨rfl, rfl⟩)
        go_ret
        exact ⟨ret_int (by simp [cmpI, h3]), hb _ _⟩
    · have e2 : (s != s') = true := by simpa using h2
      go_enter Try.func29, Try.ntmps29
      go_wp2_with (go_at_call 44; refine (num_any _ _ _).mono ?_; rintro e w' ⟨rfl, rfl⟩)
      go_ret
      exact ⟨ret_int (by simp [cmpI, h2]), hb _ _⟩
  · have e1 : (t != t') = true := by simpa using h1
    go_enter Try.func29, Try.ntmps29
    go_wp2_with (go_at_call 44; refine (num_any _ _ _).mono ?_; rintro e w' ⟨rfl, rfl⟩)
    go_ret
    exact ⟨ret_int (by simp [cmpI, h1]), hb _ _⟩

theorem sOk_is (t s q d k v g : Int) (b : Bool) (h : okB t s q d k v g = b) (w : World) :
    Calls Try.prog 9 #[.agg #[.int .i64 t, .int .i64 s, .int .i64 q, .int .i64 d, .int .i64 k, .int .i64 v, .int .i64 g]] w fun e w' => e = .returned (.bool b) ∧ Below w.heap.size w w' := by
  subst h; exact sOk_any t s q d k v g w

set_option maxHeartbeats 2000000 in
theorem sCmp_any (t s q d k v g t' s' q' d' k' v' g' : Int) (w : World) :
    Calls Try.prog 12 #[.agg #[.int .i64 t, .int .i64 s, .int .i64 q, .int .i64 d, .int .i64 k, .int .i64 v, .int .i64 g], .agg #[.int .i64 t', .int .i64 s', .int .i64 q', .int .i64 d', .int .i64 k', .int .i64 v', .int .i64 g']] w fun e w' =>
      e = .returned (.int .i64 (ecmp t s q d k v g t' s' q' d' k' v' g')) ∧ Below w.heap.size w w' := by
  cases h1 : okB t s q d k v g
  · have H1 : Hid (okB t s q d k v g = false) := h1
    clear h1
    go_enter Try.func12, Try.ntmps12
    go_wp2_with fail
    refine (sOk_is t s q d k v g false H1.out _).mono ?_
    rintro e w1 ⟨rfl, hb1⟩
    go_wp2_with fail
    go_ret
    exact ⟨ret_int (by simp [ecmp, H1.out]), (((Below.refl _ _).alloc (Nat.le_refl _) _).alloc (by simp) _).trans (hb1.mono (by simp; omega))⟩
  · have H1 : Hid (okB t s q d k v g = true) := h1
    clear h1
    cases h2 : okB t' s' q' d' k' v' g'
    · have H2 : Hid (okB t' s' q' d' k' v' g' = false) := h2
      clear h2
      go_enter Try.func12, Try.ntmps12
      go_wp2_with fail
      refine (sOk_is t s q d k v g true H1.out _).mono ?_
      rintro e w1 ⟨rfl, hb1⟩
      obtain ⟨hc, hf⟩ := bcell hb1
      go_wp2_with fail
      refine (sOk_is t' s' q' d' k' v' g' false H2.out _).mono ?_
      rintro e w2 ⟨rfl, hb2⟩
      go_wp2_with fail
      go_ret
      exact ⟨ret_int (by simp [ecmp, H1.out, H2.out]), ((((Below.refl _ _).alloc (Nat.le_refl _) _).alloc (by simp) _).trans (hb1.mono (by simp; omega))).trans (hb2.mono (by have := hb1.size; simp at this; omega))⟩
    · have H2 : Hid (okB t' s' q' d' k' v' g' = true) := h2
      clear h2
      go_enter Try.func12, Try.ntmps12
      go_wp2_with fail
      refine (sOk_is t s q d k v g true H1.out _).mono ?_
      rintro e w1 ⟨rfl, hb1⟩
      obtain ⟨hc, hf⟩ := bcell hb1
      go_wp2_with fail
      refine (sOk_is t' s' q' d' k' v' g' true H2.out _).mono ?_
      rintro e w2 ⟨rfl, hb2⟩
      have hz1 : w.heap.size + 1 < w1.heap.size := by have := hb1.size; simp at this; omega
      have hz2 : w.heap.size + 1 < w2.heap.size := by have := hb2.size; omega
      have a0 : EvAt w2 w.heap.size 0 t s q d k v g := (((EvAt.new w 25 t s q d k v g).alloc (by simp) _).below hb1 (by simp; omega)).below hb2 (by omega)
      have a1 : EvAt w2 (w.heap.size + 1) 0 t' s' q' d' k' v' g' := (((by simpa using EvAt.new (w.alloc _) 25 t' s' q' d' k' v' g') : EvAt _ (w.heap.size + 1) 0 t' s' q' d' k' v' g').below hb1 (by simp)).below hb2 (by omega)
      have hB : Below w.heap.size w w2 := ((((Below.refl _ _).alloc (Nat.le_refl _) _).alloc (by simp) _).trans (hb1.mono (by simp; omega))).trans (hb2.mono (by omega))
      clear hb1 hb2 hc hf
      obtain ⟨f0, f1, f2, f3, f4, f5, f6⟩ := a0.lits
      obtain ⟨e0, e1, e2, e3, e4, e5, e6⟩ := a1.lits
      clear a0 a1
      go_wp2_with fail
      refine (l1cmp_any t s q d k v g t' s' q' d' k' v' g' _).mono ?_
      rintro e w3 ⟨rfl, hb3⟩
      go_wp2_with fail
      go_ret
      exact ⟨ret_int (by simp [ecmp, H1.out, H2.out]), hB.trans (hb3.mono (by omega))⟩
end Go.Proofs.Ytcnlkccmibnhmaa
