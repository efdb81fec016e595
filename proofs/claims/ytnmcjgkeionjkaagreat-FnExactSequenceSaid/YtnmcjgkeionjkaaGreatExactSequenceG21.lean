/- Or, CmpI, LessI, Steps, Meth, PileI, OwnS -/
import Derived.Test.YtnmcjgkeionjkaaGreatExactSequenceG00
import Derived.Test.YtnmcjgkeionjkaaGreatExactSequenceG11
import Derived.Deep.RegionHeld3
import Derived.Deep.DeepMust
import Derived.Test.YtnmcjgkeionjkaaGreatExactSequenceG20
import Derived.Test.YtnmcjgkeionjkaaGreatExactSequenceLQuiet
import Derived.Test.YtnmcjgkeionjkaaGreatExactSequenceG12
import Derived.RangeFuncBox
import Derived.Laws.AppendOwnNone
/- cmp.Or over a row of ints. -/
namespace Go.Proofs.YtnmcjgkeionjkaaGreat
open Go.RowKit
def orL : List Int → Int
  | [] => 0
  | x :: r => if x ≠ 0 then x else orL r
theorem orL_at (zs : List Int) (k : Nat) (hk : k < zs.length) (h0 : ∀ i, i < k → zs[i]?.getD 0 = 0) (hx : zs[k]?.getD 0 ≠ 0) : orL zs = zs[k]?.getD 0 := by
  induction zs generalizing k with
  | nil => simp at hk
  | cons x r ih =>
    cases k with
    | zero => simp at hx; simp [orL, hx]
    | succ k =>
      have hx0 : x = 0 := by simpa using h0 0 (by omega)
      simp only [orL, hx0]
      simpa using ih k (by simpa using hk) (fun i hi => by simpa using h0 (i + 1) (by omega)) (by simpa using hx)
theorem orL_none (zs : List Int) (h0 : ∀ i, i < zs.length → zs[i]?.getD 0 = 0) : orL zs = 0 := by
  induction zs with
  | nil => rfl
  | cons x r ih =>
    have hx0 : x = 0 := by simpa using h0 0 (by simp)
    simp only [orL, hx0]
    simpa using ih (fun i hi => by simpa using h0 (i + 1) (by simpa using hi))

set_option maxHeartbeats 400000 in
theorem or_any (b cap : Nat) (zs : List Int) (w : World) (hl : zs.length ≤ maxLen) (hc : ∀ i, i < zs.length → w.cell? ⟨b, i, none⟩ = some (.int .i64 (zs[i]?.getD 0))) :
    Calls Tryz.prog 166 #[.slice (some ⟨b, 0, none⟩) zs.length cap] w fun e w' => e = .returned (.int .i64 (orL zs)) ∧ w' = w := by
  unfold maxLen at hl
  go_enter Tryz.func166, Tryz.ntmps166
  go_wp2
  go_loop [8] (fun i => ∃ k : Nat, k ≤ zs.length ∧ i = .int .i64 k ∧ ∀ i, i < k → zs[i]?.getD 0 = 0) (fun i => zs.length - (intOf i).toNat)
  case atStart => exact ⟨0, Nat.zero_le _, rfl, fun i h => by omega⟩
  case round =>
    obtain ⟨k, hk, rfl, h0⟩ := hrel
    have H0 : Hid (∀ i, i < k → zs[i]?.getD 0 = 0) := h0
    clear h0
    by_cases hlt : k < zs.length
    · have hck := hc k hlt
      have HC : Hid (∀ i, i < zs.length → w.cell? ⟨b, i, none⟩ = some (.int .i64 (zs[i]?.getD 0))) := hc
      clear hc
      generalize hx : zs[k]?.getD 0 = x at hck
      have HX : Hid (zs[k]?.getD 0 = x) := hx
      clear hx
      by_cases hz : x = 0
      · subst hz
        go_wp2
        go_round
        case rel => exact ⟨k + 1, by omega, by go_num, fun i hi => by
          by_cases e : i = k
          · subst e; exact HX.out
          · exact H0.out i (by omega)⟩
        case measure => simp [intOf]; omega
      · have hne : (x != 0) = true := by simpa using hz
        go_wp2
        go_ret
        exact ⟨ret_int (by rw [orL_at zs k hlt H0.out (by rw [HX.out]; exact hz), HX.out]), rfl⟩
    · go_wp2
      go_ret
      exact ⟨ret_int (by rw [orL_none zs (fun i hi => H0.out i (by omega))]), rfl⟩
end Go.Proofs.YtnmcjgkeionjkaaGreat

/- The program's EventCmp. -/
namespace Go.Proofs.YtnmcjgkeionjkaaGreat
open Go.RowKit
theorem num_zero (a b : Int) : num a b = 0 ↔ a = b := by unfold num; split <;> (try split) <;> omega
theorem orL_cmp (t s q g t' s' q' g' : Int) : orL [num t t', num s s', num q q', num g g'] = cmpI t s q g t' s' q' g' := by
  unfold cmpI
  by_cases h1 : t = t'
  · by_cases h2 : s = s'
    · by_cases h3 : q = q'
      · by_cases h4 : g = g' <;> simp [orL, num_zero, h1, h2, h3, h4]
        · exact ((num_zero _ _).2 rfl).symm
      · simp [orL, num_zero, h1, h2, h3]
    · simp [orL, num_zero, h1, h2]
  · simp [orL, num_zero, h1]

theorem iOk_is (t s q d k v g : Int) (b : Bool) (h : okB t s q d k v g = b) (w : World) :
    Calls Tryz.prog 51 #[.agg #[.int .i64 t, .int .i64 s, .int .i64 q, .int .i64 d, .int .i64 k, .int .i64 v, .int .i64 g]] w fun e w' => e = .returned (.bool b) ∧ Below w.heap.size w w' := by
  subst h; exact iOk_any t s q d k v g w

set_option maxHeartbeats 2000000 in
theorem iCmp_any (t s q d k v g t' s' q' d' k' v' g' : Int) (w : World) :
    Calls Tryz.prog 88 #[.agg #[.int .i64 t, .int .i64 s, .int .i64 q, .int .i64 d, .int .i64 k, .int .i64 v, .int .i64 g], .agg #[.int .i64 t', .int .i64 s', .int .i64 q', .int .i64 d', .int .i64 k', .int .i64 v', .int .i64 g']] w fun e w' =>
      e = .returned (.int .i64 (ecmp t s q d k v g t' s' q' d' k' v' g')) ∧ Below w.heap.size w w' := by
  cases h1 : okB t s q d k v g
  · have H1 : Hid (okB t s q d k v g = false) := h1
    clear h1
    go_enter Tryz.func88, Tryz.ntmps88
    go_wp2_with fail
    refine (iOk_is t s q d k v g false H1.out _).mono ?_
    rintro e w1 ⟨rfl, hb1⟩
    go_wp2_with fail
    go_ret
    exact ⟨ret_int (by simp [ecmp, H1.out]), (((Below.refl _ _).alloc (Nat.le_refl _) _).alloc (by simp) _).trans (hb1.mono (by simp; omega))⟩
  · have H1 : Hid (okB t s q d k v g = true) := h1
    clear h1
    cases h2 : okB t' s' q' d' k' v' g'
    · have H2 : Hid (okB t' s' q' d' k' v' g' = false) := h2
      clear h2
      go_enter Tryz.func88, Tryz.ntmps88
      go_wp2_with fail
      refine (iOk_is t s q d k v g true H1.out _).mono ?_
      rintro e w1 ⟨rfl, hb1⟩
      obtain ⟨hc, hf⟩ := bcell hb1
      go_wp2_with fail
      refine (iOk_is t' s' q' d' k' v' g' false H2.out _).mono ?_
      rintro e w2 ⟨rfl, hb2⟩
      go_wp2_with fail
      go_ret
      exact ⟨ret_int (by simp [ecmp, H1.out, H2.out]), ((((Below.refl _ _).alloc (Nat.le_refl _) _).alloc (by simp) _).trans (hb1.mono (by simp; omega))).trans (hb2.mono (by have := hb1.size; simp at this; omega))⟩
    · have H2 : Hid (okB t' s' q' d' k' v' g' = true) := h2
      clear h2
      go_enter Tryz.func88, Tryz.ntmps88
      go_wp2_with fail
      refine (iOk_is t s q d k v g true H1.out _).mono ?_
      rintro e w1 ⟨rfl, hb1⟩
      obtain ⟨hc, hf⟩ := bcell hb1
      go_wp2_with fail
      refine (iOk_is t' s' q' d' k' v' g' true H2.out _).mono ?_
      rintro e w2 ⟨rfl, hb2⟩
      have hz1 : w.heap.size + 1 < w1.heap.size := by have := hb1.size; simp at this; omega
      have hz2 : w.heap.size + 1 < w2.heap.size := by have := hb2.size; omega
      obtain ⟨hc2, hf2⟩ := bcell hb2
      have f0 : w2.cell? ⟨w.heap.size, 0, none⟩ = some (.int .i64 t) := by rw [hc2 _ _ (by omega), hc _ _ (by simp; omega)]; simp
      have f1 : w2.cell? ⟨w.heap.size, 1, none⟩ = some (.int .i64 s) := by rw [hc2 _ _ (by omega), hc _ _ (by simp; omega)]; simp
      have f2 : w2.cell? ⟨w.heap.size, 2, none⟩ = some (.int .i64 q) := by rw [hc2 _ _ (by omega), hc _ _ (by simp; omega)]; simp
      have f6 : w2.cell? ⟨w.heap.size, 6, none⟩ = some (.int .i64 g) := by rw [hc2 _ _ (by omega), hc _ _ (by simp; omega)]; simp
      have e0 : w2.cell? ⟨w.heap.size + 1, 0, none⟩ = some (.int .i64 t') := by rw [hc2 _ _ (by omega), hc _ _ (by simp)]; simp
      have e1 : w2.cell? ⟨w.heap.size + 1, 1, none⟩ = some (.int .i64 s') := by rw [hc2 _ _ (by omega), hc _ _ (by simp)]; simp
      have e2 : w2.cell? ⟨w.heap.size + 1, 2, none⟩ = some (.int .i64 q') := by rw [hc2 _ _ (by omega), hc _ _ (by simp)]; simp
      have e6 : w2.cell? ⟨w.heap.size + 1, 6, none⟩ = some (.int .i64 g') := by rw [hc2 _ _ (by omega), hc _ _ (by simp)]; simp
      have hB : Below w.heap.size w w2 := ((((Below.refl _ _).alloc (Nat.le_refl _) _).alloc (by simp) _).trans (hb1.mono (by simp; omega))).trans (hb2.mono (by omega))
      clear hc hf hc2 hf2 hb1 hb2 hz1
      go_wp2_with fail
      go_region_held3 (fun W => W.cell? ⟨w.heap.size, 0, none⟩ = some (.int .i64 t) ∧ W.cell? ⟨w.heap.size, 1, none⟩ = some (.int .i64 s) ∧ W.cell? ⟨w.heap.size, 2, none⟩ = some (.int .i64 q) ∧ W.cell? ⟨w.heap.size, 6, none⟩ = some (.int .i64 g) ∧ W.cell? ⟨w.heap.size + 1, 0, none⟩ = some (.int .i64 t') ∧ W.cell? ⟨w.heap.size + 1, 1, none⟩ = some (.int .i64 s') ∧ W.cell? ⟨w.heap.size + 1, 2, none⟩ = some (.int .i64 q') ∧ W.cell? ⟨w.heap.size + 1, 6, none⟩ = some (.int .i64 g')) (go_keep)
        (first
          | (go_at_call 167; refine (compare_any _ _ _).mono ?_; rintro e w' ⟨rfl, rfl⟩)
          | (go_at_call 166; refine (or_any _ _ [num t t', num s s', num q q', num g g'] _ ?_ ?_).mono ?_; (simp [maxLen]); (intro i hi; have h4 : i = 0 ∨ i = 1 ∨ i = 2 ∨ i = 3 := (by simp at hi; omega); rcases h4 with rfl | rfl | rfl | rfl <;> simp); rintro e w' ⟨rfl, rfl⟩))
      go_wp2
      go_ret
      exact ⟨ret_int (by rw [orL_cmp]; simp [ecmp, H1.out, H2.out]), hB.drew.alloc (by simp; omega) _⟩
end Go.Proofs.YtnmcjgkeionjkaaGreat

/- The pile's Less. -/
namespace Go.Proofs.YtnmcjgkeionjkaaGreat
open Go.RowKit
theorem cmpI_range (t s q g t' s' q' g' : Int) : cmpI t s q g t' s' q' g' = -1 ∨ 0 ≤ cmpI t s q g t' s' q' g' := by
  unfold cmpI num
  split <;> (try split) <;> (try split) <;> (try split) <;> (try split) <;> omega
theorem iCmp_ok (a b : Ev) (ha : a.ok = true) (hb : b.ok = true) (z : Int) (hz : a.cmp b = z) (w : World) : Calls Tryz.prog 88 #[a.val, b.val] w fun r w' => r = .returned (.int .i64 z) ∧ Below w.heap.size w w' := by
  refine (iCmp_any a.t a.s a.q a.d a.k a.v a.g b.t b.s b.q b.d b.k b.v b.g w).mono ?_
  rintro e w' ⟨rfl, h⟩
  refine ⟨?_, h⟩
  rw [← hz]
  unfold ecmp Ev.cmp
  rw [if_pos ⟨ha, hb⟩]

set_option maxRecDepth 100000 in
set_option maxHeartbeats 4000000 in
theorem less_any (B P g cap : Nat) (l : List Ev) (i k : Nat) (w : World) (hP : w.cell? ⟨P, 0, none⟩ = some (.slice (some ⟨g, 0, none⟩) l.length cap)) (hPw : P < w.heap.size) (hR : Row w B g cap l) (hi : i < l.length) (hk : k < l.length) (hoi : (evAt l i).ok = true) (hok : (evAt l k).ok = true) (b : Bool) (hb : decide ((evAt l i).cmp (evAt l k) < 0) = b) :
    Calls Tryz.prog 307 #[.pointer (some ⟨P, 0, none⟩), .int .i64 (i : Int), .int .i64 (k : Int)] w fun e w' => e = .returned (.bool b) ∧ Below w.heap.size w w' := by
  have hg : g < w.heap.size := hR.lt.2
  obtain ⟨z, hz⟩ : ∃ z, (evAt l i).cmp (evAt l k) = z := ⟨_, rfl⟩
  have HC : Hid (∀ w, Calls Tryz.prog 88 #[(evAt l i).val, (evAt l k).val] w fun r w' => r = .returned (.int .i64 z) ∧ Below w.heap.size w w') := iCmp_ok _ _ hoi hok z hz
  have hzb : (z == -1) = b := by
    rw [← hb]
    have := cmpI_range (evAt l i).t (evAt l i).s (evAt l i).q (evAt l i).g (evAt l k).t (evAt l k).s (evAt l k).q (evAt l k).g
    unfold Ev.cmp at hz ⊢
    rw [hz] at this ⊢
    by_cases h : z = -1
    · subst h; rfl
    · have h0 : ¬ z < 0 := by omega
      simp [h, h0]
  have hcP : ∀ p : Beyond w, p.w.cell? ⟨P, 0, none⟩ = some (.slice (some ⟨g, 0, none⟩) l.length cap) := fun p => p.cell hPw hP
  obtain ⟨f0, f1, f2, f3, f4, f5, f6⟩ := (hR.ev hi).beyond hg
  obtain ⟨e0, e1, e2, e3, e4, e5, e6⟩ := (hR.ev hk).beyond hg
  have hi1 : (i : Int) < (l.length : Int) := by omega
  have hk1 : (k : Int) < (l.length : Int) := by omega
  have hne : Nonempty (Beyond w) := ⟨⟨w, Below.refl _ _⟩⟩
  clear hR hP hb hz hoi hok
  go_enter Tryz.func307, Tryz.ntmps307
  go_wp2_with fail
  refine wp_region_beyond (by kernel_rfl) (by kernel_rfl) ?_
  repeat (go_big_quiet_step (first | (go_at_call 88; exact Beyond.of (HC.out _))))
  refine wpQuiet_nil ?_
  rintro w2 ⟨⟨_, hb2⟩, rfl⟩
  clear f0 f1 f2 f3 f4 f5 f6 e0 e1 e2 e3 e4 e5 e6 hne hcP
  go_wp2
  go_ret
  exact ⟨rfl, hb2⟩
end Go.Proofs.YtnmcjgkeionjkaaGreat

/- One step of lifting, one of sinking. -/
namespace Go.Proofs.YtnmcjgkeionjkaaGreat
theorem upL_step {l : List Ev} {i p : Nat} (hp : (i - 1) / 2 = p) (hi : p < i) (hc : (evAt l i).cmp (evAt l p) < 0) : upL (swp l i p) p = upL l i := by
  subst hp; exact (upL_go (by omega) hc).symm
theorem downL_step {l : List Ev} {n i k : Nat} (hk : pickL l n i = k) (hne : k ≠ i) : downL (swp l i k) n k = downL l n i := by
  subst hk; exact (downL_go hne).symm
theorem pick_none {l : List Ev} {n i : Nat} (h : ¬ 2 * i + 1 < n) : pickL l n i = i := by
  rw [pick_lib, if_neg h]
/- The document's way, test by test. -/
theorem pick_left {l : List Ev} {n i : Nat} (h1 : 2 * i + 1 < n) (a : (evAt l (2 * i + 1)).cmp (evAt l i) < 0) (b : ¬ (2 * i + 2 < n ∧ (evAt l (2 * i + 2)).cmp (evAt l (2 * i + 1)) < 0)) : pickL l n i = 2 * i + 1 := by
  unfold pickL; rw [if_pos (And.intro h1 a), if_neg b]
theorem pick_right {l : List Ev} {n i : Nat} (h1 : 2 * i + 1 < n) (a : (evAt l (2 * i + 1)).cmp (evAt l i) < 0) (h2 : 2 * i + 2 < n) (b : (evAt l (2 * i + 2)).cmp (evAt l (2 * i + 1)) < 0) : pickL l n i = 2 * i + 2 := by
  unfold pickL; rw [if_pos (And.intro h1 a), if_pos (And.intro h2 b)]
theorem pick_right' {l : List Ev} {n i : Nat} (a : ¬ (2 * i + 1 < n ∧ (evAt l (2 * i + 1)).cmp (evAt l i) < 0)) (h2 : 2 * i + 2 < n) (b : (evAt l (2 * i + 2)).cmp (evAt l i) < 0) : pickL l n i = 2 * i + 2 := by
  unfold pickL; rw [if_neg a, if_pos (And.intro h2 b)]
theorem pick_stay {l : List Ev} {n i : Nat} (a : ¬ (2 * i + 1 < n ∧ (evAt l (2 * i + 1)).cmp (evAt l i) < 0)) (b : ¬ (2 * i + 2 < n ∧ (evAt l (2 * i + 2)).cmp (evAt l i) < 0)) : pickL l n i = i := by
  unfold pickL; rw [if_neg a, if_neg b]
/- The library's way. -/
theorem lib_right {l : List Ev} {n i : Nat} (h2 : 2 * i + 2 < n) (b : (evAt l (2 * i + 2)).cmp (evAt l (2 * i + 1)) < 0) (c : (evAt l (2 * i + 2)).cmp (evAt l i) < 0) : pickL l n i = 2 * i + 2 := by
  rw [pick_lib, if_pos (by omega), if_pos ⟨h2, b⟩, if_pos c]
theorem lib_right_stay {l : List Ev} {n i : Nat} (h2 : 2 * i + 2 < n) (b : (evAt l (2 * i + 2)).cmp (evAt l (2 * i + 1)) < 0) (c : ¬ (evAt l (2 * i + 2)).cmp (evAt l i) < 0) : pickL l n i = i := by
  rw [pick_lib, if_pos (by omega), if_pos ⟨h2, b⟩, if_neg c]
theorem lib_left {l : List Ev} {n i : Nat} (h1 : 2 * i + 1 < n) (b : ¬ (2 * i + 2 < n ∧ (evAt l (2 * i + 2)).cmp (evAt l (2 * i + 1)) < 0)) (c : (evAt l (2 * i + 1)).cmp (evAt l i) < 0) : pickL l n i = 2 * i + 1 := by
  rw [pick_lib, if_pos h1, if_neg b, if_pos c]
theorem lib_left_stay {l : List Ev} {n i : Nat} (h1 : 2 * i + 1 < n) (b : ¬ (2 * i + 2 < n ∧ (evAt l (2 * i + 2)).cmp (evAt l (2 * i + 1)) < 0)) (c : ¬ (evAt l (2 * i + 1)).cmp (evAt l i) < 0) : pickL l n i = i := by
  rw [pick_lib, if_pos h1, if_neg b, if_neg c]
end Go.Proofs.YtnmcjgkeionjkaaGreat

/- Which methods a pile has. -/
namespace Go.Proofs.YtnmcjgkeionjkaaGreat
open Go.RowKit
abbrev pv (P : Nat) : Value := .iface 259 (.pointer (some ⟨P, 0, none⟩))
theorem m_len (P : Nat) (w : World) : (method 459 259 (.pointer (some ⟨P, 0, none⟩)) "Len").run Tryz.prog w = .ok (306, .pointer (some ⟨P, 0, none⟩)) w := by kernel_rfl
theorem m_less (P : Nat) (w : World) : (method 459 259 (.pointer (some ⟨P, 0, none⟩)) "Less").run Tryz.prog w = .ok (307, .pointer (some ⟨P, 0, none⟩)) w := by kernel_rfl
theorem m_swap (P : Nat) (w : World) : (method 459 259 (.pointer (some ⟨P, 0, none⟩)) "Swap").run Tryz.prog w = .ok (310, .pointer (some ⟨P, 0, none⟩)) w := by kernel_rfl
theorem m_push (P : Nat) (w : World) : (method 459 259 (.pointer (some ⟨P, 0, none⟩)) "Push").run Tryz.prog w = .ok (309, .pointer (some ⟨P, 0, none⟩)) w := by kernel_rfl
theorem m_pop (P : Nat) (w : World) : (method 459 259 (.pointer (some ⟨P, 0, none⟩)) "Pop").run Tryz.prog w = .ok (308, .pointer (some ⟨P, 0, none⟩)) w := by kernel_rfl
end Go.Proofs.YtnmcjgkeionjkaaGreat

/- The pile as a box; its Push and Pop. -/
namespace Go.Proofs.YtnmcjgkeionjkaaGreat
open Go.RowKit
/- At block P lies a pile whose list is the slice value v over a row of its own. -/
structure Pl (w : World) (B P : Nat) (v : Value) (l : List Ev) : Prop where
  box : Boxed w P 261 v
  row : w.ownsRow B 40 7 v l.length (cellsL l)
  low : B ≤ P
theorem Pl.slice {w : World} {B P : Nat} {v : Value} {l : List Ev} (h : Pl w B P v l) : ∃ a cap, v = .slice a l.length cap ∧ l.length ≤ maxLen := by
  obtain ⟨_, ⟨e, h0⟩ | ⟨g, cap, cur, e, _, _, h1, h2, _⟩⟩ := h.row
  · exact ⟨none, 0, by rw [e, h0], by omega⟩
  · exact ⟨_, cap, e, by omega⟩
theorem Pl.rowed {w : World} {B P : Nat} {v : Value} {l : List Ev} (h : Pl w B P v l) (hl : 0 < l.length) : ∃ g cap, v = slh g l.length cap ∧ Row w B g cap l ∧ P ≠ g := by
  obtain ⟨h0, ⟨e, h1⟩ | ⟨g, cap, cur, e, h1⟩⟩ := h.row
  · omega
  · have hr := h.row
    refine ⟨g, cap, e, ?_, fun e1 => h.box.not_row (by decide) hr (by rw [e, e1]; rfl)⟩
    rw [e] at hr
    exact hr
theorem Pl.alloc {w : World} {B P : Nat} {v : Value} {l : List Ev} (h : Pl w B P v l) (o : Obj) : Pl (w.alloc o) B P v l := ⟨h.box.alloc o, h.row.alloc o, h.low⟩
/- What Turns on the row alone leaves of a pile. -/
theorem Pl.turned {w w' : World} {B P g cap : Nat} {l l' : List Ev} (h : Pl w B P (slh g l.length cap) l) (ht : Turns (fun b => b = g) w w') (hg : P ≠ g) (hr : Row w' B g cap l') (hl : l'.length = l.length) : Pl w' B P (slh g l'.length cap) l' :=
  ⟨by rw [hl]; exact (ht.block P h.box.lt hg).trans h.box, hr, h.low⟩
theorem Ev.cs_one (e : Ev) : ∀ u ∈ e.cs, u.oneCell' = true := by
  intro u h
  simp [Ev.cs] at h
  rcases h with rfl | rfl | rfl | rfl | rfl | rfl | rfl <;> rfl
theorem Ev.In.cells {w : World} {b : Nat} {e : Ev} (h : Ev.In w b 0 e) : ∀ j u, e.cs[j]? = some u → w.cell? ((⟨b, 0, none⟩ : Addr).add j) = some u := fun j u hu => by
  rw [addr_add]; exact h.get hu
theorem newE (w : World) (e : Ev) : Ev.In (w.alloc (.cells #[.int .i64 e.t, .int .i64 e.s, .int .i64 e.q, .int .i64 e.d, .int .i64 e.k, .int .i64 e.v, .int .i64 e.g] 40)) w.heap.size 0 e := EvAt.new _ _ _ _ _ _ _ _ _

theorem newED (w : World) (e : Ev) : Ev.In (w.alloc (.cells #[.int .i64 e.t, .int .i64 e.s, .int .i64 e.q, .int .i64 e.d, .int .i64 e.k, .int .i64 e.v, .int .i64 e.g] 40)).drew w.heap.size 0 e := ⟨(newE w e).f0, (newE w e).f1, (newE w e).f2, (newE w e).f3, (newE w e).f4, (newE w e).f5, (newE w e).f6⟩
theorem grow_drew {w w' : World} {row : Option Nat} (h : w.drew.grownBy w' row) : w.grownBy w' row := ⟨h.os, h.tape, h.output, h.size, h.block⟩
theorem assert_ev (t s q d k v g : Int) (w : World) : (Instr.typeAssert (.iface 40 (.agg #[.int .i64 t, .int .i64 s, .int .i64 q, .int .i64 d, .int .i64 k, .int .i64 v, .int .i64 g])) 20 40 true).run Tryz.prog w = .ok (.tuple #[.agg #[.int .i64 t, .int .i64 s, .int .i64 q, .int .i64 d, .int .i64 k, .int .i64 v, .int .i64 g], .bool true]) w := by kernel_rfl
set_option maxRecDepth 100000 in
set_option maxHeartbeats 4000000 in
theorem push_any (B P : Nat) (v : Value) (l : List Ev) (e : Ev) (w : World) (hB : B ≤ w.heap.size) (h : Pl w B P v l) (hl : l.length ≤ 1048577) :
    Calls Tryz.prog 309 #[.pointer (some ⟨P, 0, none⟩), .iface 40 (.agg #[.int .i64 e.t, .int .i64 e.s, .int .i64 e.q, .int .i64 e.d, .int .i64 e.k, .int .i64 e.v, .int .i64 e.g])] w fun r w' => (∃ u, r = .returned u) ∧ (∃ g cap, Pl w' B P (slh g (l ++ [e]).length cap) (l ++ [e])) ∧ Below B w w' := by
  obtain ⟨a, cap, rfl, hm⟩ := h.slice
  obtain ⟨i0, hi, hz0, hz1, hz2⟩ := info_parts info25
  have HH : Hid (Pl w B P (.slice a l.length cap) l) := h
  have hPw : P < w.heap.size := h.box.lt
  have hPn : P ≠ w.heap.size := by omega
  have hcP := h.box.cell
  have hfP := h.box.frozen
  clear h
  have hta := assert_ev e.t e.s e.q e.d e.k e.v e.g
  go_enter Tryz.func309, Tryz.ntmps309
  go_wp2
  have HB1 : Hid (Boxed (w.alloc (.cells #[.int .i64 e.t, .int .i64 e.s, .int .i64 e.q, .int .i64 e.d, .int .i64 e.k, .int .i64 e.v, .int .i64 e.g] 40)) P 261 (.slice a l.length cap)) := HH.out.box.alloc _
  have HR1 : Hid ((w.alloc (.cells #[.int .i64 e.t, .int .i64 e.s, .int .i64 e.q, .int .i64 e.d, .int .i64 e.k, .int .i64 e.v, .int .i64 e.g] 40)).ownsRow B 40 7 (.slice a l.length cap) l.length (cellsL l)) := HH.out.row.alloc _
  have HW1 : Hid (Below B w (w.alloc (.cells #[.int .i64 e.t, .int .i64 e.s, .int .i64 e.q, .int .i64 e.d, .int .i64 e.k, .int .i64 e.v, .int .i64 e.g] 40))) := (Below.refl _ w).alloc hB _
  obtain ⟨x0, x1, x2, x3, x4, x5, x6⟩ := (newE w e).lits
  generalize hW : w.alloc (.cells #[.int .i64 e.t, .int .i64 e.s, .int .i64 e.q, .int .i64 e.d, .int .i64 e.k, .int .i64 e.v, .int .i64 e.g] 40) = W at *
  have hBW : B ≤ W.heap.size := by rw [← hW]; simp; omega
  have hPW : P < W.heap.size := HB1.out.lt
  have hPWn : P ≠ W.heap.size := by omega
  have hwW : w.heap.size < W.heap.size := by rw [← hW]; simp
  have hcP1 := HB1.out.cell
  have hfP1 := HB1.out.frozen
  clear hW hcP hfP hta
  go_region_law (refine step_append_own rfl (.tmp 16) (.tmp 18) 34 rfl B 40 i0 _ 7 56 Tryz.underlying34 hi hz0 hz1 hz2 rfl (by decide) (.slice a l.length cap) l.length (cellsL l) rfl ((World.ownsRow.alloc HR1.out _).drew) ⟨W.heap.size, 0, none⟩ 1 1 e.cs rfl rfl (Ev.In.cells (newED W e)) (Ev.cs_one e) (by unfold maxLen at hm ⊢; omega) (by omega) (by simp; omega) ?_; intro v1 w1 hown1 hgrow1; obtain ⟨g1, cap1, rfl⟩ := ownsRow_succ hown1; obtain ⟨hA, hC, hD, _, hE⟩ := Boxed.appended (W := W) HB1.out (by decide) HR1.out hBW HH.out.low hown1 (grow_drew hgrow1); have hcP2 := hA.cell; have hfP2 := hA.frozen)
  all_goals
    go_wp2
    go_end0
    refine ⟨⟨_, rfl⟩, ⟨g1, cap1, ?_⟩, HW1.out.trans hE⟩
    have e1 : (l ++ [e]).length = l.length + 1 := by simp
    rw [e1]
    exact ⟨hC, by rw [e1, cellsL_append]; simpa [cellsL] using hD, HH.out.low⟩

set_option maxRecDepth 100000 in
set_option maxHeartbeats 4000000 in
theorem pop_any (B P g cap : Nat) (l : List Ev) (e : Ev) (w : World) (h : Pl w B P (slh g (l.length + 1) cap) (l ++ [e])) :
    Calls Tryz.prog 308 #[.pointer (some ⟨P, 0, none⟩)] w fun r w' => r = .returned (.iface 40 (.agg #[.int .i64 e.t, .int .i64 e.s, .int .i64 e.q, .int .i64 e.d, .int .i64 e.k, .int .i64 e.v, .int .i64 e.g])) ∧ Pl w' B P (slh g l.length cap) l ∧ Turns (fun b => b = P) w w' := by
  have HH : Hid (Pl w B P (slh g (l.length + 1) cap) (l ++ [e])) := h
  have hPw : P < w.heap.size := h.box.lt
  have hcP := h.box.cell
  have hfP := h.box.frozen
  have hR : Row w B g cap (l ++ [e]) := by have := h.row; unfold Row; rw [List.length_append] at this ⊢; exact this
  have HR : Hid (Row w B g cap (l ++ [e])) := hR
  have hgw : g < w.heap.size := hR.lt.2
  have hcap := hR.caps
  rw [List.length_append] at hcap
  simp only [List.length_singleton] at hcap
  obtain ⟨f0, f1, f2, f3, f4, f5, f6⟩ := hR.ev (i := l.length) (by simp)
  rw [evAt_last] at f0 f1 f2 f3 f4 f5 f6
  have hmx : cap ≤ maxLen := hcap.2
  unfold maxLen at hmx
  clear h hR
  go_enter Tryz.func308, Tryz.ntmps308
  go_wp2
  go_ret
  have hne : some P ≠ (slh g (l.length + 1) cap).ownBlock := HH.out.box.not_row (by decide) HH.out.row
  have hr2 : w.ownsRow B 40 7 (slh g l.length cap) l.length (cellsL l) := HR.out.pop
  exact ⟨rfl, ⟨(HH.out.box.set (slh g l.length cap)).alloc _, (hr2.kept (grownBy_setCell' w P _) (.inr (fun h => hne h.symm))).alloc _, HH.out.low⟩, ((Turns.refl (fun b => b = P) w).setCell (p := ⟨P, 0, none⟩) rfl _).alloc _⟩
end Go.Proofs.YtnmcjgkeionjkaaGreat

/- Lists that are read, nil or not; the copies of both sides, as rows of one's own. -/
namespace Go.Proofs.YtnmcjgkeionjkaaGreat
open Go.RowKit
def SrcE (w : World) (x : Value) (l : List Ev) : Prop := (x = .slice none 0 0 ∧ l = []) ∨ ∃ b off cap, x = .slice (some ⟨b, off, none⟩) l.length cap ∧ EvsAt w b off l
def OwnR (B : Nat) (w : World) (x : Value) (l : List Ev) : Prop := w.ownsRow B 40 7 x l.length (cellsL l)
theorem SrcE.below {w w' : World} {x : Value} {l : List Ev} (h : SrcE w x l) (hb : Below w.heap.size w w') : SrcE w' x l :=
  h.imp id (fun ⟨b, off, cap, e, h⟩ => ⟨b, off, cap, e, h.below hb h.1⟩)
theorem OwnR.src {B : Nat} {w : World} {x : Value} {l : List Ev} (h : OwnR B w x l) : SrcE w x l := by
  have h' := h
  obtain ⟨_, ⟨e, h0⟩ | ⟨g, cap, cur, rfl, h1⟩⟩ := h
  · exact .inl ⟨e, List.eq_nil_of_length_eq_zero h0⟩
  · exact .inr ⟨g, 0, cap, rfl, Row.evs h'⟩
theorem OwnR.own {B : Nat} {w : World} {x : Value} {l : List Ev} (h : OwnR B w x l) : OwnEvs B w x l := OwnEvs.of_row h
theorem OwnR.rowed {B : Nat} {w : World} {x : Value} {l : List Ev} (h : OwnR B w x l) {n : Nat} (hl : l.length = n + 1) : ∃ g cap, x = .slice (some ⟨g, 0, none⟩) (n + 1) cap ∧ Row w B g cap l := by
  have h' := h
  obtain ⟨_, ⟨e, h0⟩ | ⟨g, cap, cur, rfl, h1⟩⟩ := h
  · omega
  · exact ⟨g, cap, by rw [hl], h'⟩
theorem OwnR.below {B : Nat} {w w' : World} {x : Value} {l : List Ev} (h : OwnR B w x l) (hb : Below w.heap.size w w') : OwnR B w' x l := by
  obtain ⟨h0, ⟨e, h1⟩ | ⟨g, cap, cur, e, hg, hc, h1⟩⟩ := h
  · exact ⟨h0, .inl ⟨e, h1⟩⟩
  · exact ⟨h0, .inr ⟨g, cap, cur, e, hg, (hb.block g (Array.getElem?_eq_some_iff.1 hc).1).trans hc, h1⟩⟩
theorem OwnR.mono {B B' : Nat} {w : World} {x : Value} {l : List Ev} (h : OwnR B w x l) (hB : B' ≤ B) : OwnR B' w x l := by
  obtain ⟨h0, ⟨e, h1⟩ | ⟨g, cap, cur, e, hg, h1⟩⟩ := h
  · exact ⟨h0, .inl ⟨e, h1⟩⟩
  · exact ⟨h0, .inr ⟨g, cap, cur, e, Nat.le_trans hB hg, h1⟩⟩
theorem OwnR.nil (B : Nat) (w : World) : OwnR B w (.slice none 0 0) [] := World.ownsRow_nil w B _ 7
theorem OwnR.evs {B : Nat} {w : World} {x : Value} {l : List Ev} (h : OwnR B w x l) : IsEvs w x l := h.own.isEvs
theorem RowTo.src {w : World} {g : Nat} {l : List Ev} (h : RowTo w g l.length l l.length) : SrcE w (.slice (some ⟨g, 0, none⟩) l.length l.length) l := .inr ⟨g, 0, _, rfl, h.evs⟩

set_option maxHeartbeats 1000000 in
theorem copy_row (x : Value) (l : List Ev) (w : World) (hl : l.length ≤ 1048577) (hI : SrcE w x l) :
    Calls Tryz.prog 102 #[x] w fun e w' => ∃ y, e = .returned y ∧ OwnR w.heap.size w' y l ∧ Below w.heap.size w w' := by
  obtain ⟨i0, hi, hz0, hz1, hz2⟩ := info_parts info25
  rcases hI with ⟨rfl, rfl⟩ | ⟨b, off, cap, rfl, hI⟩
  · go_enter Tryz.func102, Tryz.ntmps102
    go_wp2_with (at_builtin; refine wpList_append_own_none rfl _ _ 34 rfl w.heap.size 40 i0 7 Tryz.underlying34 hi (.slice none 0 0) 0 [] rfl (World.ownsRow_nil w _ 40 7) rfl ?_)
    go_ret
    exact ⟨_, rfl, OwnR.nil _ _, Below.refl _ _⟩
  · have HI : Hid (EvsAt w b off l) := hI
    clear hI
    go_enter Tryz.func102, Tryz.ntmps102
    go_wp2_with (at_builtin; refine wpList_append_own _ rfl _ _ 34 rfl w.heap.size 40 i0 _ 7 56 Tryz.underlying34 hi hz0 hz1 hz2 rfl (by decide) (.slice none 0 0) 0 [] rfl (World.ownsRow_nil w _ 40 7) ⟨b, off, none⟩ l.length cap (cellsL l) rfl (cellsL_length l) HI.out.cells (cellsL_one l) (by unfold maxLen; omega) (by omega) (Nat.le_refl _) ?_; intro v' w1 hown hgrow hnil)
    go_ret
    exact ⟨_, rfl, by unfold OwnR; simpa using hown, (Below.refl _ w).grown hgrow (Nat.le_refl _) (fun k e => by cases e)⟩

set_option maxHeartbeats 1000000 in
theorem own_row (x : Value) (l : List Ev) (w : World) (hl : l.length ≤ 1048577) (hI : SrcE w x l) :
    Calls Tryz.prog 60 #[x] w fun e w' => ∃ y, e = .returned y ∧ OwnR w.heap.size w' y l ∧ Below w.heap.size w w' := by
  obtain ⟨i0, hi, hz0, hz1, hz2⟩ := info_parts info25
  rcases hI with ⟨rfl, rfl⟩ | ⟨b, off, cap, rfl, hI⟩
  · go_enter Tryz.func60, Tryz.ntmps60
    go_wp2_with (at_builtin; refine wpList_append_own_none rfl _ _ 34 rfl w.heap.size 40 i0 7 Tryz.underlying34 hi (.slice (some ⟨w.heap.size, 0, none⟩) 0 0) 0 [] rfl (row_empty w) rfl ?_)
    go_ret
    exact ⟨_, rfl, row_empty w, (Below.refl _ w).alloc (Nat.le_refl _) _⟩
  · have HI : Hid (EvsAt w b off l) := hI
    clear hI
    go_enter Tryz.func60, Tryz.ntmps60
    go_wp2_with (at_builtin; refine wpList_append_own _ rfl _ _ 34 rfl w.heap.size 40 i0 _ 7 56 Tryz.underlying34 hi hz0 hz1 hz2 rfl (by decide) (.slice (some ⟨w.heap.size, 0, none⟩) 0 0) 0 [] rfl (row_empty w) ⟨b, off, none⟩ l.length cap (cellsL l) rfl (cellsL_length l) (HI.out.below ((Below.refl _ w).alloc (Nat.le_refl _) _) HI.out.1).cells (cellsL_one l) (by unfold maxLen; omega) (by omega) (by simp) ?_; intro v' w1 hown hgrow hnil)
    go_ret
    exact ⟨_, rfl, by unfold OwnR; simpa using hown, ((Below.refl _ w).alloc (Nat.le_refl _) _).grown hgrow (by simp) (fun k e => by cases e; exact Nat.le_refl _)⟩

set_option maxHeartbeats 1000000 in
theorem pileOf_any (x : Value) (l : List Ev) (w : World) (hl : l.length ≤ 1048577) (hI : SrcE w x l) :
    Calls Tryz.prog 183 #[x] w fun e w' => ∃ P v, e = .returned (pv P) ∧ Pl w' w.heap.size P v l ∧ Below w.heap.size w w' := by
  have HI : Hid (SrcE w x l) := hI
  clear hI
  go_enter Tryz.func183, Tryz.ntmps183
  go_wp2_with fail
  refine (copy_row x l w hl HI.out).mono ?_
  rintro e w1 ⟨y, rfl, hy, hb⟩
  have HY : Hid (OwnR w.heap.size w1 y l) := hy
  obtain ⟨a, cap, rfl⟩ : ∃ a cap, y = .slice a l.length cap := by
    obtain ⟨_, ⟨e, h0⟩ | ⟨g, cap, cur, e, _⟩⟩ := hy
    · exact ⟨none, 0, by rw [e, h0]⟩
    · exact ⟨_, cap, e⟩
  clear hy
  go_wp2
  go_ret
  exact ⟨w1.heap.size, _, rfl, ⟨Boxed.new _ _ _, World.ownsRow.alloc HY.out _, hb.size⟩, hb.alloc hb.size _⟩

end Go.Proofs.YtnmcjgkeionjkaaGreat

