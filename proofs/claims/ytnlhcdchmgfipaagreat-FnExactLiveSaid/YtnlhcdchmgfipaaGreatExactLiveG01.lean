/- VWh, WLv -/
import Derived.Test.YtnlhcdchmgfipaaGreatExactWorldOkG31
import Derived.Test.YtnlhcdchmgfipaaGreatExactWorldOkG43
/- Vectors: both Wholes. -/
namespace Go.Proofs.YtnlhcdchmgfipaaGreat
open Go.RowKit
def whN (l : List Int) : Int := l.foldl (fun n z => if z = -1 then 2 * n else n) 1
theorem whN_next {l : List Int} {k : Nat} (h : k < l.length) {z : Int} (hz : z = intAt l k) : whN (l.take (k + 1)) = if z = -1 then 2 * whN (l.take k) else whN (l.take k) := by
 have e : l.take (k + 1) = l.take k ++ [z] := by rw [List.take_add_one, hz]; simp [intAt, h]
 rw [e]; simp [whN]
theorem whN_low (l : List Int) : 1 ≤ whN l ∧ whN l ≤ 2 ^ l.length := by
 have : ∀ (l : List Int) (n : Int), 1 ≤ n → n ≤ l.foldl (fun n z => if z = -1 then 2 * n else n) n ∧ l.foldl (fun n z => if z = -1 then 2 * n else n) n ≤ n * 2 ^ l.length := by
  intro l
  induction l with
  | nil => intro n _; simp
  | cons z r ih =>
   intro n hn
   simp only [List.foldl_cons, List.length_cons, Int.pow_succ]
   have hp : (0 : Int) < 2 ^ r.length := Int.pow_pos (by omega)
   split
   ·have := ih (2 * n) (by omega)
    rw [show n * (2 ^ r.length * 2) = 2 * n * 2 ^ r.length by rw [Int.mul_comm (2 ^ r.length) 2, ← Int.mul_assoc, Int.mul_comm n 2]]
    omega
   ·have := ih n hn
    have h2 : n * 2 ^ r.length ≤ n * (2 ^ r.length * 2) := Int.mul_le_mul_of_nonneg_left (by omega) (by omega)
    omega
 have h := this l 1 (by omega)
 unfold whN; omega
theorem whN_small {l : List Int} {k : Nat} (hl : l.length = 4) (hk : k < 4) : 1 ≤ whN (l.take k) ∧ whN (l.take k) ≤ 8 := by
 have h := whN_low (l.take k)
 have e : (l.take k).length = k := by simp; omega
 rw [e] at h
 have hk4 : k = 0 ∨ k = 1 ∨ k = 2 ∨ k = 3 := by omega
 rcases hk4 with rfl | rfl | rfl | rfl <;> exact ⟨h.1, Int.le_trans h.2 (by decide)⟩
set_option maxHeartbeats 2000000 in
theorem sWholesYes (b off cap : Nat) (l : List Int) (w : World) (hl : l.length = 4) (hv : ∀ j, j < 4 → -1 ≤ intAt l j) (hI : IntsAt w b off l) (H : Calls Tryz.prog 53 #[.slice (some ⟨b, off, none⟩) 4 cap] w fun e w' => e = .returned (.bool true) ∧ w' = w) :
  Calls Tryz.prog 101 #[.slice (some ⟨b, off, none⟩) 4 cap] w fun e w' => e = .returned (.int .i64 (whN l)) ∧ Below w.heap.size w w' := by
 have HL : Hid (l.length = 4) := hl
 have HV : Hid (∀ j, j < 4 → -1 ≤ intAt l j) := hv
 have HI : Hid (IntsAt w b off l) := hI
 have H' : Hid (Calls Tryz.prog 53 #[.slice (some ⟨b, off, none⟩) 4 cap] w fun e w' => e = .returned (.bool true) ∧ w' = w) := H
 clear hl hv hI H
 go_enter Tryz.func101, Tryz.ntmps101
 go_wp2_with fail
 refine H'.out.mono ?_
 rintro e w1 ⟨rfl, hw⟩
 obtain rfl := hw.symm
 go_wp2
 go_loop [3, 4] (fun n i => ∃ (k : Nat) (N : Int), k ≤ 4 ∧ i = .int .i64 k ∧ n = .int .i64 N ∧ Hid (N = whN (l.take k))) (fun _ i => 4 - (intOf i).toNat)
 case atStart => exact ⟨0, 1, by omega, rfl, rfl, rfl⟩
 case round =>
  obtain ⟨k, N, hk, rfl, rfl, HN⟩ := hrel
  by_cases hlt : k < 4
  ·have hki : (k : Int) < 4 := by omega
   have hkl : k < l.length := by rw [HL.out]; exact hlt
   have f0 := HI.out.2 k hkl
   obtain ⟨z, hz⟩ : ∃ z, z = intAt l k := ⟨_, rfl⟩
   have HX : Hid (whN (l.take (k + 1)) = if z = -1 then 2 * N else N) := by have := whN_next hkl hz; rw [← HN.out] at this; exact this
   have hb := whN_small HL.out hlt
   rw [← HN.out] at hb
   have hz1 : -1 ≤ z := hz ▸ HV.out k hlt
   rw [← hz] at f0
   have hN1 : 1 ≤ N := hb.1
   have hN2 : N ≤ 8 := hb.2
   clear hz hb hkl HN
   by_cases hz0 : z < 0
   ·have HE : Hid (z = -1) := by show z = -1; omega
    go_wp2
    go_round
    case rel => exact ⟨k + 1, 2 * N, by omega, by go_num, by go_num, by show _ = _; rw [HX.out, if_pos HE.out]⟩
    case measure => simp [intOf]; omega
   ·have HE : Hid (¬ z = -1) := by show ¬ z = -1; omega
    go_wp2
    go_round
    case rel => exact ⟨k + 1, N, by omega, by go_num, rfl, by show _ = _; rw [HX.out, if_neg HE.out]⟩
    case measure => simp [intOf]; omega
  ·have e4 : l.take k = l := by rw [show k = 4 by omega, ← HL.out]; exact List.take_length
   have HE : Hid (N = whN l) := by have := HN.out; rw [e4] at this; exact this
   clear HN e4
   go_wp2
   go_ret
   exact ⟨ret_int HE.out, Below.refl _ _⟩
theorem sWholes_any (x : Value) (l : List Int) (w : World) (hl : l.length ≤ 4611686018427387904) (h : IsI w x l) :
  Calls Tryz.prog 101 #[x] w fun e w' => e = .returned (.int .i64 (if vok l = true then whN l else 0)) ∧ Below w.heap.size w w' := by
 have H : Hid (Calls Tryz.prog 53 #[x] w fun e w' => e = .returned (.bool (vok l)) ∧ w' = w) := sVok_any x l w hl h
 cases hv : vok l with
 | false =>
  rw [hv] at H
  clear h
  go_enter Tryz.func101, Tryz.ntmps101
  go_wp2_with fail
  refine H.out.mono ?_
  rintro e w1 ⟨rfl, hw⟩
  obtain rfl := hw.symm
  go_wp2
  go_ret
  exact ⟨rfl, Below.refl _ _⟩
 | true =>
  rw [hv] at H
  obtain ⟨b, off, cap, rfl, hI⟩ := h.four (vok_len4 hv)
  exact sWholesYes b off cap l w (vok_len4 hv) (fun j hj => (vok_at hv j hj).1) hI H.out
set_option maxRecDepth 100000 in
set_option maxHeartbeats 2000000 in
theorem wholes_any (a0 a1 a2 a3 : Int) (w : World) :
  Calls Tryz.prog 187 #[vec a0 a1 a2 a3] w fun e w' => e = .returned (.int .i64 (whN [a0, a1, a2, a3])) ∧ Below w.heap.size w w' := by
 have j0 : ∀ w : World, (Instr.index 118 (.agg #[.int .i64 a0, .int .i64 a1, .int .i64 a2, .int .i64 a3]) (.int .i64 0)).run Tryz.prog w = .ok (.int .i64 a0) w := fun _ => by kernel_rfl
 have j1 : ∀ w : World, (Instr.index 118 (.agg #[.int .i64 a0, .int .i64 a1, .int .i64 a2, .int .i64 a3]) (.int .i64 1)).run Tryz.prog w = .ok (.int .i64 a1) w := fun _ => by kernel_rfl
 have j2 : ∀ w : World, (Instr.index 118 (.agg #[.int .i64 a0, .int .i64 a1, .int .i64 a2, .int .i64 a3]) (.int .i64 2)).run Tryz.prog w = .ok (.int .i64 a2) w := fun _ => by kernel_rfl
 have j3 : ∀ w : World, (Instr.index 118 (.agg #[.int .i64 a0, .int .i64 a1, .int .i64 a2, .int .i64 a3]) (.int .i64 3)).run Tryz.prog w = .ok (.int .i64 a3) w := fun _ => by kernel_rfl
 have HB0 : Hid (Below w.heap.size w (w.alloc (cell4 a0 a1 a2 a3))) := (Below.refl _ w).alloc (Nat.le_refl _) _
 go_enter Tryz.func187, Tryz.ntmps187
 go_wp2
 generalize w.alloc (cell4 a0 a1 a2 a3) = W0 at HB0 ⊢
 go_loop [3, 7] (fun n i => ∃ (k : Nat) (N : Int), k ≤ 4 ∧ i = .int .i64 k ∧ n = .int .i64 N ∧ Hid (N = whN ([a0, a1, a2, a3].take k))) (fun _ i => 4 - (intOf i).toNat)
 case atStart => exact ⟨0, 1, by omega, rfl, rfl, rfl⟩
 case round =>
  obtain ⟨k, N, hk, rfl, rfl, HN⟩ := hrel
  have hk4 : k = 0 ∨ k = 1 ∨ k = 2 ∨ k = 3 ∨ k = 4 := by omega
  clear hk
  rcases hk4 with rfl | rfl | rfl | rfl | rfl
  ·have HX : Hid (whN ([a0, a1, a2, a3].take (0 + 1)) = if a0 = -1 then 2 * N else N) := by have := whN_next (l := [a0, a1, a2, a3]) (k := 0) (by simp) (z := a0) rfl; rw [← HN.out] at this; exact this
   have hb := whN_small (l := [a0, a1, a2, a3]) (k := 0) rfl (by omega)
   rw [← HN.out] at hb
   have hN1 : 1 ≤ N := hb.1
   have hN2 : N ≤ 8 := hb.2
   clear hb HN
   by_cases e : a0 = -1
   ·have HE : Hid (a0 = -1) := e
    have d : (a0 == (-1 : Int)) = true := by simp [e]
    clear e
    go_wp2
    go_round
    case rel => exact ⟨1, 2 * N, by omega, rfl, by go_num, by show _ = _; rw [HX.out, if_pos HE.out]⟩
    case measure => simp [intOf]
   ·have HE : Hid (¬ a0 = -1) := e
    have d : (a0 == (-1 : Int)) = false := by simp [e]
    clear e
    go_wp2
    go_round
    case rel => exact ⟨1, N, by omega, rfl, rfl, by show _ = _; rw [HX.out, if_neg HE.out]⟩
    case measure => simp [intOf]
  ·have HX : Hid (whN ([a0, a1, a2, a3].take (1 + 1)) = if a1 = -1 then 2 * N else N) := by have := whN_next (l := [a0, a1, a2, a3]) (k := 1) (by simp) (z := a1) rfl; rw [← HN.out] at this; exact this
   have hb := whN_small (l := [a0, a1, a2, a3]) (k := 1) rfl (by omega)
   rw [← HN.out] at hb
   have hN1 : 1 ≤ N := hb.1
   have hN2 : N ≤ 8 := hb.2
   clear hb HN
   by_cases e : a1 = -1
   ·have HE : Hid (a1 = -1) := e
    have d : (a1 == (-1 : Int)) = true := by simp [e]
    clear e
    go_wp2
    go_round
    case rel => exact ⟨2, 2 * N, by omega, rfl, by go_num, by show _ = _; rw [HX.out, if_pos HE.out]⟩
    case measure => simp [intOf]
   ·have HE : Hid (¬ a1 = -1) := e
    have d : (a1 == (-1 : Int)) = false := by simp [e]
    clear e
    go_wp2
    go_round
    case rel => exact ⟨2, N, by omega, rfl, rfl, by show _ = _; rw [HX.out, if_neg HE.out]⟩
    case measure => simp [intOf]
  ·have HX : Hid (whN ([a0, a1, a2, a3].take (2 + 1)) = if a2 = -1 then 2 * N else N) := by have := whN_next (l := [a0, a1, a2, a3]) (k := 2) (by simp) (z := a2) rfl; rw [← HN.out] at this; exact this
   have hb := whN_small (l := [a0, a1, a2, a3]) (k := 2) rfl (by omega)
   rw [← HN.out] at hb
   have hN1 : 1 ≤ N := hb.1
   have hN2 : N ≤ 8 := hb.2
   clear hb HN
   by_cases e : a2 = -1
   ·have HE : Hid (a2 = -1) := e
    have d : (a2 == (-1 : Int)) = true := by simp [e]
    clear e
    go_wp2
    go_round
    case rel => exact ⟨3, 2 * N, by omega, rfl, by go_num, by show _ = _; rw [HX.out, if_pos HE.out]⟩
    case measure => simp [intOf]
   ·have HE : Hid (¬ a2 = -1) := e
    have d : (a2 == (-1 : Int)) = false := by simp [e]
    clear e
    go_wp2
    go_round
    case rel => exact ⟨3, N, by omega, rfl, rfl, by show _ = _; rw [HX.out, if_neg HE.out]⟩
    case measure => simp [intOf]
  ·have HX : Hid (whN ([a0, a1, a2, a3].take (3 + 1)) = if a3 = -1 then 2 * N else N) := by have := whN_next (l := [a0, a1, a2, a3]) (k := 3) (by simp) (z := a3) rfl; rw [← HN.out] at this; exact this
   have hb := whN_small (l := [a0, a1, a2, a3]) (k := 3) rfl (by omega)
   rw [← HN.out] at hb
   have hN1 : 1 ≤ N := hb.1
   have hN2 : N ≤ 8 := hb.2
   clear hb HN
   by_cases e : a3 = -1
   ·have HE : Hid (a3 = -1) := e
    have d : (a3 == (-1 : Int)) = true := by simp [e]
    clear e
    go_wp2
    go_round
    case rel => exact ⟨4, 2 * N, by omega, rfl, by go_num, by show _ = _; rw [HX.out, if_pos HE.out]⟩
    case measure => simp [intOf]
   ·have HE : Hid (¬ a3 = -1) := e
    have d : (a3 == (-1 : Int)) = false := by simp [e]
    clear e
    go_wp2
    go_round
    case rel => exact ⟨4, N, by omega, rfl, rfl, by show _ = _; rw [HX.out, if_neg HE.out]⟩
    case measure => simp [intOf]
  ·go_wp2
   go_ret
   exact ⟨ret_int HN.out, HB0.out⟩
set_option maxHeartbeats 1000000 in
theorem iWholes_any (x : Value) (l : List Int) (w : World) (hl : l.length ≤ 4611686018427387904) (h : IsI w x l) :
  Calls Tryz.prog 152 #[x] w fun e w' => e = .returned (.int .i64 (if vok l = true then whN l else 0)) ∧ Below w.heap.size w w' := by
 have H := of_any x l w hl h
 cases hv : vok l with
 | false =>
  rw [hv, vec_no hv] at H
  go_enter Tryz.func152, Tryz.ntmps152
  go_wp2_with fail
  refine H.mono ?_
  rintro e w1 ⟨rfl, hb1⟩
  go_wp2
  go_ret
  exact ⟨rfl, hb1.alloc hb1.size _⟩
 | true =>
  rw [hv] at H
  obtain ⟨a0, a1, a2, a3, rfl, _⟩ := vok_four hv
  rw [show vecOf [a0, a1, a2, a3] = vec a0 a1 a2 a3 by simp [vecOf, hv, intAt]] at H
  have M : Hid (∀ W, Calls Tryz.prog 187 #[vec a0 a1 a2 a3] W fun e w' => e = .returned (.int .i64 (whN [a0, a1, a2, a3])) ∧ Below W.heap.size W w') := fun W => wholes_any a0 a1 a2 a3 W
  go_enter Tryz.func152, Tryz.ntmps152
  go_wp2_with fail
  refine H.mono ?_
  rintro e w1 ⟨rfl, hb1⟩
  go_wp2_with fail
  refine (M.out _).mono ?_
  rintro e w2 ⟨rfl, hb2⟩
  have hz := hb1.size
  go_wp2
  go_ret
  exact ⟨rfl, (hb1.alloc hb1.size _).trans (hb2.mono (by simp; omega))⟩
end Go.Proofs.YtnlhcdchmgfipaaGreat
/- Live and Gone: how many whole vectors there are. -/
namespace Go.Proofs.YtnlhcdchmgfipaaGreat
open Go.RowKit
def whV (d : List Int) : Int := if vok d = true then whN d else 0
theorem whV_range (d : List Int) : 0 ≤ whV d ∧ whV d ≤ 16 := by
 unfold whV
 split
 next h =>
  have h1 := whN_low d
  have h2 := vok_len4 h
  rw [h2] at h1
  omega
 ·omega
def sumW (l : List (List Int)) : Int := l.foldl (fun n d => n + whV d) 0
theorem sumW_snoc {l : List (List Int)} {k : Nat} (h : k < l.length) : sumW (l.take (k + 1)) = sumW (l.take k) + whV (vAt l k) := by
 unfold sumW
 rw [take_vsnoc h, List.foldl_append]
 rfl
theorem sumW_range : ∀ (l : List (List Int)), 0 ≤ sumW l ∧ sumW l ≤ 16 * l.length := fun l => by
 have h : ∀ k, k ≤ l.length → 0 ≤ sumW (l.take k) ∧ sumW (l.take k) ≤ 16 * k := fun k => by
  induction k with
  | zero => exact fun _ => ⟨by simp [sumW], by simp [sumW]⟩
  | succ k ih =>
   intro hk
   have h1 := ih (by omega)
   have h2 := whV_range (vAt l k)
   rw [sumW_snoc (by omega)]
   omega
 have h9 := h l.length (Nat.le_refl _)
 rw [List.take_of_length_le (Nat.le_refl _)] at h9
 exact h9
noncomputable def liveN (v : Wd) (l : List (List Int)) : Int := if v.ok = true then sumW l else 0
theorem liveN_no {v : Wd} (l : List (List Int)) (h : v.ok = false) : liveN v l = 0 := by unfold liveN; rw [h]; rfl
theorem liveN_yes {v : Wd} (l : List (List Int)) (h : v.ok = true) : liveN v l = sumW l := by unfold liveN; rw [if_pos h]
theorem sWh (x : Value) (l : List Int) (w : World) (hl : l.length ≤ 4611686018427387904) (h : IsI w x l) :
  Calls Tryz.prog 101 #[x] w fun e w' => e = .returned (.int .i64 (whV l)) ∧ Below w.heap.size w w' :=
 sWholes_any x l w hl h
theorem iWh (x : Value) (l : List Int) (w : World) (hl : l.length ≤ 4611686018427387904) (h : IsI w x l) :
  Calls Tryz.prog 152 #[x] w fun e w' => e = .returned (.int .i64 (whV l)) ∧ Below w.heap.size w w' :=
 iWholes_any x l w hl h
set_option maxRecDepth 100000 in
set_option maxHeartbeats 16000000 in
theorem sLive (x : Value) (v : Wd) (w : World) (hs : SmallWd v) (h : IsW w x v) :
  Calls Tryz.prog 40 #[x] w fun e w' => e = .returned (.int .i64 (liveN v (dsOf v.k))) ∧ Below w.heap.size w w' := by
 have HSW : Hid (SmallWd v) := hs
 have HSM : Hid (SmallM v.m) := hs.1
 have HSK : Hid (SmallKs v.k) := hs.2.1
 have HSV : Hid ((vecsD v.c).wt ≤ 1048576) := hs.2.2
 have hkl : v.k.length ≤ 1048576 := hs.2.1.1
 have hcl : v.c.length ≤ 1048576 := by have h9 := hs.2.2; rw [vecs_wt] at h9; omega
 obtain ⟨ai, ci, ah, ch, ae, ce, ak, ck, ac, cc, rfl, hm, hk, hc⟩ := h.form
 have HWW : Hid (IsW w (.agg #[.int .i64 v.m.n, .int .i64 v.m.s, .slice ai v.m.i.length ci, .slice ah v.m.h.length ch, .slice ae v.m.e.length ce, .int .i64 v.m.z, .slice ak v.k.length ck, .slice ac v.c.length cc]) v) := h
 have HMW : Hid (IsM w (.agg #[.int .i64 v.m.n, .int .i64 v.m.s, .slice ai v.m.i.length ci, .slice ah v.m.h.length ch, .slice ae v.m.e.length ce, .int .i64 v.m.z]) v.m) := hm
 have HKS : Hid (v.k.length = 0 ∨ ∃ b off, ak = some ⟨b, off, none⟩ ∧ b < w.heap.size ∧ ∀ i, i < v.k.length → KAt w b (off + i * 14) (knAt v.k i)) := hk
 have HCS : Hid (v.c.length = 0 ∨ ∃ b off, ac = some ⟨b, off, none⟩ ∧ b < w.heap.size ∧ ∀ j, j < v.c.length → ∃ u, w.cell? ⟨b, off + j, none⟩ = some u ∧ IsD w u (intsD (vAt v.c j))) := hc
 clear h hm hk hc
 obtain ⟨W0, hW0⟩ : ∃ W0, w.alloc (.cells #[.int .i64 v.m.n, .int .i64 v.m.s, .slice ai v.m.i.length ci, .slice ah v.m.h.length ch, .slice ae v.m.e.length ce, .int .i64 v.m.z, .slice ak v.k.length ck, .slice ac v.c.length cc] 60) = W0 := ⟨_, rfl⟩
 have HB0 : Hid (Below w.heap.size w W0) := by rw [← hW0]; exact (Below.refl _ w).alloc (Nat.le_refl _) _
 have HP0 : Hid (Bk W0 w.heap.size 60 #[.int .i64 v.m.n, .int .i64 v.m.s, .slice ai v.m.i.length ci, .slice ah v.m.h.length ch, .slice ae v.m.e.length ce, .int .i64 v.m.z, .slice ak v.k.length ck, .slice ac v.c.length cc]) := by rw [← hW0]; exact Bk.new w _ _
 have q0 := HP0.out.cell (i := 0) rfl
 have q1 := HP0.out.cell (i := 1) rfl
 have q2 := HP0.out.cell (i := 2) rfl
 have q3 := HP0.out.cell (i := 3) rfl
 have q4 := HP0.out.cell (i := 4) rfl
 have q5 := HP0.out.cell (i := 5) rfl
 have q6 := HP0.out.cell (i := 6) rfl
 have q7 := HP0.out.cell (i := 7) rfl
 go_enter Tryz.func40, Tryz.ntmps40
 go_wp2_with fail
 clear q0 q1 q2 q3 q4 q5 q6 q7 hW0
 refine (sWorldOk _ v _ HSW.out (HWW.out.under HB0.out)).mono ?_
 rintro e w1 ⟨rfl, hb1⟩
 have HB1 : Hid (Below w.heap.size w w1) := HB0.out.trans (hb1.mono HB0.out.size)
 have HP1 : Hid (Bk w1 w.heap.size 60 #[.int .i64 v.m.n, .int .i64 v.m.s, .slice ai v.m.i.length ci, .slice ah v.m.h.length ch, .slice ae v.m.e.length ce, .int .i64 v.m.z, .slice ak v.k.length ck, .slice ac v.c.length cc]) := HP0.out.below hb1
 clear hb1 HB0 HP0
 cases hok : v.ok
 case false =>
  have HOK : Hid (v.ok = false) := hok
  clear hok
  go_wp2
  go_ret
  exact ⟨ret_int (liveN_no _ HOK.out).symm, HB1.out⟩
 have HOK : Hid (v.ok = true) := hok
 have hln := (wok_iff.1 hok).1
 clear hok
 have q6 := HP1.out.cell (i := 6) rfl
 go_wp2
 clear q6
 go_loopw [4, 3] (fun i n wr => ∃ j : Nat, j ≤ v.k.length ∧ i = .int .i64 j ∧ (∃ z : Int, n = .int .i64 z ∧ Hid (z = sumW ((dsOf v.k).take j)) ∧ 0 ≤ z ∧ z ≤ 16 * j) ∧ Hid (Below w1.heap.size w1 wr)) (fun i _ _ => v.k.length - (intOf i).toNat)
 case atStart => exact ⟨0, Nat.zero_le _, rfl, ⟨0, rfl, rfl, by omega, by omega⟩, Below.refl _ _⟩
 case round =>
  obtain ⟨j, hj, rfl, ⟨z, rfl, HZ, hz0, hz1⟩, HBr⟩ := hrel
  have HBw : Hid (Below w.heap.size w wr) := HB1.out.trans (HBr.out.mono HB1.out.size)
  have HPr : Hid (Bk wr w.heap.size 60 #[.int .i64 v.m.n, .int .i64 v.m.s, .slice ai v.m.i.length ci, .slice ah v.m.h.length ch, .slice ae v.m.e.length ce, .int .i64 v.m.z, .slice ak v.k.length ck, .slice ac v.c.length cc]) := HP1.out.below HBr.out
  have hq := HPr.out.cell (i := 6) rfl
  by_cases hlt : j < v.k.length
  case pos =>
   obtain ⟨b, off, rfl, hbl, hKA⟩ := HKS.out.resolve_left (by omega)
   obtain ⟨ki, di, kh, dh, ke, de, k6, d6, k7, d7, k8, d8, k12, d12, k13, d13, ⟨_, _, _, _, _, _, f6, _, _, _, _, _, _, _⟩, hkn, hkm, hkd⟩ := (hKA j hlt).form
   have f6 := (HBw.out.cell (p := ⟨b, _, none⟩) hbl).trans f6
   have HDW : Hid (IsD w (.slice k6 (knAt v.k j).d.length d6) (intsD (knAt v.k j).d)) := hkd
   have hvl : (knAt v.k j).d.length ≤ 1048576 := by have h9 := vecs_len HSK.out j (by rw [dsOf_len]; exact hlt); rw [dsOf_at hlt] at h9; exact h9
   clear hkn hkm hkd hKA
   go_wp2_with fail
   clear f6
   clear hq
   refine (sWh _ (knAt v.k j).d _ (by omega) ((HDW.out.under HBw.out).isI)).mono ?_
   rintro e w2 ⟨rfl, hb2⟩
   have HB2 : Hid (Below w1.heap.size w1 w2) := HBr.out.trans (hb2.mono HBr.out.size)
   clear hb2
   have hwr := whV_range (vAt (dsOf v.k) j)
   have hzz : sumW ((dsOf v.k).take (j + 1)) = z + whV (vAt (dsOf v.k) j) := by rw [sumW_snoc (by rw [dsOf_len]; exact hlt), ← HZ.out]
   obtain ⟨y, hy⟩ : ∃ y, whV (vAt (dsOf v.k) j) = y := ⟨_, rfl⟩
   rw [dsOf_at hlt] at hy
   rw [hy]
   rw [← dsOf_at hlt] at hy
   rw [hy] at hwr hzz
   have HZZ : Hid (sumW ((dsOf v.k).take (j + 1)) = z + y) := hzz
   clear hzz
   go_wp2
   go_roundw
   case rel => exact ⟨j + 1, by omega, by go_num, ⟨z + y, rfl, HZZ.out.symm, by omega, by omega⟩, HB2.out⟩
   case measure => simp [intOf]; omega
  case neg =>
   have hje : j = v.k.length := by omega
   have HEND : Hid (z = sumW (dsOf v.k)) := by
    have h9 := HZ.out
    rw [hje, List.take_of_length_le (by rw [dsOf_len]; exact Nat.le_refl _)] at h9
    exact h9
   subst hje
   go_wp2
   go_ret
   exact ⟨ret_int (HEND.out.trans (liveN_yes _ HOK.out).symm), HBw.out⟩
set_option maxRecDepth 100000 in
set_option maxHeartbeats 8000000 in
theorem iSum (x : Value) (l : List (List Int)) (w : World) (hl2 : l.length ≤ 1048576) (hv9 : ∀ j, j < l.length → (vAt l j).length ≤ 1048576) (h : IsD w x (vecsD l)) :
  Calls Tryz.prog 102 #[x] w fun e w' => e = .returned (.int .i64 (sumW l)) ∧ Below w.heap.size w w' := by
 obtain ⟨a, cap, rfl, h1, h2, h⟩ := IsD.parts (c := 1) (n := l.length) h
 have HH : Hid (l.length = 0 ∨ ∃ b off, a = some ⟨b, off, none⟩ ∧ b < w.heap.size ∧ ∀ j, j < l.length * 1 → ∃ u, w.cell? ⟨b, off + j, none⟩ = some u ∧ IsD w u (vecsD_f l j)) := h
 have HS : Hid (∀ j, j < l.length → (vAt l j).length ≤ 1048576) := hv9
 clear h h1 h2 hv9
 go_enter Tryz.func102, Tryz.ntmps102
 go_wp2
 go_loopw [8, 3] (fun i n wr => ∃ j : Nat, j ≤ l.length ∧ i = .int .i64 j ∧ (∃ z : Int, n = .int .i64 z ∧ Hid (z = sumW (l.take j)) ∧ 0 ≤ z ∧ z ≤ 16 * j) ∧ Hid (Below w.heap.size w wr)) (fun i _ _ => l.length - (intOf i).toNat)
 case atStart => exact ⟨0, Nat.zero_le _, rfl, ⟨0, rfl, rfl, by omega, by omega⟩, Below.refl _ _⟩
 case round =>
  obtain ⟨j, hj, rfl, ⟨z, rfl, HZ, hz0, hz1⟩, HB⟩ := hrel
  have hsr : w.heap.size ≤ wr.heap.size := HB.out.size
  by_cases hlt : j < l.length
  case pos =>
   have hjd : decide ((j : Int) < (l.length : Int)) = true := by simpa using hlt
   obtain ⟨b, off, rfl, hbl, hc⟩ := HH.out.resolve_left (by omega)
   obtain ⟨u, hu, hd⟩ := hc j (by omega)
   have f0 := (HB.out.cell (p := ⟨b, off + j, none⟩) hbl).trans hu
   have HD : Hid (IsI wr u (vAt l j)) := (IsD.under (d := intsD (vAt l j)) hd HB.out).isI
   have hvl : (vAt l j).length ≤ 1048576 := HS.out j hlt
   clear hc hu hd
   go_wp2_with fail
   clear f0
   refine (iWh _ (vAt l j) _ (by omega) HD.out).mono ?_
   rintro e w2 ⟨rfl, hb2⟩
   have HB2 : Hid (Below w.heap.size w w2) := HB.out.trans (hb2.mono hsr)
   clear hb2
   have hwr := whV_range (vAt l j)
   have hzz : sumW (l.take (j + 1)) = z + whV (vAt l j) := by rw [sumW_snoc hlt, ← HZ.out]
   obtain ⟨y, hy⟩ : ∃ y, whV (vAt l j) = y := ⟨_, rfl⟩
   rw [hy]
   rw [hy] at hwr hzz
   have HZZ : Hid (sumW (l.take (j + 1)) = z + y) := hzz
   clear hzz
   go_wp2
   go_roundw
   case rel => exact ⟨j + 1, by omega, by go_num, ⟨z + y, rfl, HZZ.out.symm, by omega, by omega⟩, HB2.out⟩
   case measure => simp [intOf]; omega
  case neg =>
   have hje : j = l.length := by omega
   have HEND : Hid (z = sumW l) := by
    have h9 := HZ.out
    rw [hje, List.take_of_length_le (Nat.le_refl _)] at h9
    exact h9
   subst hje
   go_wp2
   go_ret
   exact ⟨ret_int HEND.out, HB.out⟩
set_option maxRecDepth 100000 in
set_option maxHeartbeats 16000000 in
theorem iLive (x : Value) (v : Wd) (w : World) (hs : SmallWd v) (h : IsW w x v) :
  Calls Tryz.prog 41 #[x] w fun e w' => e = .returned (.int .i64 (liveN v (dsOf v.k))) ∧ Below w.heap.size w w' := by
 have HSW : Hid (SmallWd v) := hs
 have h0 := h
 have HSM : Hid (SmallM v.m) := hs.1
 have HSK : Hid (SmallKs v.k) := hs.2.1
 have HSV : Hid ((vecsD v.c).wt ≤ 1048576) := hs.2.2
 have hkl : v.k.length ≤ 1048576 := hs.2.1.1
 have hcl : v.c.length ≤ 1048576 := by have h9 := hs.2.2; rw [vecs_wt] at h9; omega
 obtain ⟨ai, ci, ah, ch, ae, ce, ak, ck, ac, cc, rfl, hm, hk, hc⟩ := h.form
 have HWW : Hid (IsW w (.agg #[.int .i64 v.m.n, .int .i64 v.m.s, .slice ai v.m.i.length ci, .slice ah v.m.h.length ch, .slice ae v.m.e.length ce, .int .i64 v.m.z, .slice ak v.k.length ck, .slice ac v.c.length cc]) v) := h
 have HMW : Hid (IsM w (.agg #[.int .i64 v.m.n, .int .i64 v.m.s, .slice ai v.m.i.length ci, .slice ah v.m.h.length ch, .slice ae v.m.e.length ce, .int .i64 v.m.z]) v.m) := hm
 have HKS : Hid (v.k.length = 0 ∨ ∃ b off, ak = some ⟨b, off, none⟩ ∧ b < w.heap.size ∧ ∀ i, i < v.k.length → KAt w b (off + i * 14) (knAt v.k i)) := hk
 have HCS : Hid (v.c.length = 0 ∨ ∃ b off, ac = some ⟨b, off, none⟩ ∧ b < w.heap.size ∧ ∀ j, j < v.c.length → ∃ u, w.cell? ⟨b, off + j, none⟩ = some u ∧ IsD w u (intsD (vAt v.c j))) := hc
 have HCD : Hid (IsD w (.slice ac v.c.length cc) (vecsD v.c)) := by
  obtain ⟨_, _, _, _, uc, e9, _, _, h9⟩ := h0
  have e8 := congrArg Array.toList (Value.agg.inj e9)
  simp at e8
  rw [← e8.2.2.2.2] at h9
  exact h9
 clear h h0 hm hk hc
 obtain ⟨W0, hW0⟩ : ∃ W0, w.alloc (.cells #[.int .i64 v.m.n, .int .i64 v.m.s, .slice ai v.m.i.length ci, .slice ah v.m.h.length ch, .slice ae v.m.e.length ce, .int .i64 v.m.z, .slice ak v.k.length ck, .slice ac v.c.length cc] 60) = W0 := ⟨_, rfl⟩
 have HB0 : Hid (Below w.heap.size w W0) := by rw [← hW0]; exact (Below.refl _ w).alloc (Nat.le_refl _) _
 have HP0 : Hid (Bk W0 w.heap.size 60 #[.int .i64 v.m.n, .int .i64 v.m.s, .slice ai v.m.i.length ci, .slice ah v.m.h.length ch, .slice ae v.m.e.length ce, .int .i64 v.m.z, .slice ak v.k.length ck, .slice ac v.c.length cc]) := by rw [← hW0]; exact Bk.new w _ _
 have q0 := HP0.out.cell (i := 0) rfl
 have q1 := HP0.out.cell (i := 1) rfl
 have q2 := HP0.out.cell (i := 2) rfl
 have q3 := HP0.out.cell (i := 3) rfl
 have q4 := HP0.out.cell (i := 4) rfl
 have q5 := HP0.out.cell (i := 5) rfl
 have q6 := HP0.out.cell (i := 6) rfl
 have q7 := HP0.out.cell (i := 7) rfl
 go_enter Tryz.func41, Tryz.ntmps41
 go_wp2_with fail
 clear q0 q1 q2 q3 q4 q5 q6 q7 hW0
 refine (iWorldOk _ v _ HSW.out (HWW.out.under HB0.out)).mono ?_
 rintro e w1 ⟨rfl, hb1⟩
 have HB1 : Hid (Below w.heap.size w w1) := HB0.out.trans (hb1.mono HB0.out.size)
 have HP1 : Hid (Bk w1 w.heap.size 60 #[.int .i64 v.m.n, .int .i64 v.m.s, .slice ai v.m.i.length ci, .slice ah v.m.h.length ch, .slice ae v.m.e.length ce, .int .i64 v.m.z, .slice ak v.k.length ck, .slice ac v.c.length cc]) := HP0.out.below hb1
 clear hb1 HB0 HP0
 cases hok : v.ok
 case false =>
  have HOK : Hid (v.ok = false) := hok
  clear hok
  go_wp2
  go_ret
  exact ⟨ret_int (liveN_no _ HOK.out).symm, HB1.out⟩
 have HOK : Hid (v.ok = true) := hok
 clear hok
 have q0 := HP1.out.cell (i := 0) rfl
 have q1 := HP1.out.cell (i := 1) rfl
 have q2 := HP1.out.cell (i := 2) rfl
 have q3 := HP1.out.cell (i := 3) rfl
 have q4 := HP1.out.cell (i := 4) rfl
 have q5 := HP1.out.cell (i := 5) rfl
 have q6 := HP1.out.cell (i := 6) rfl
 have q7 := HP1.out.cell (i := 7) rfl
 go_wp2_with fail
 clear q0 q1 q2 q3 q4 q5 q6 q7
 refine (runs_any _ v _ HSW.out (HWW.out.under HB1.out)).mono ?_
 rintro e w2 ⟨y1, rfl, hb2, hr2⟩
 have HB2 : Hid (Below w.heap.size w w2) := HB1.out.trans (hb2.mono HB1.out.size)
 have HD2 : Hid (IsD w2 y1 (vecsD (dsOf v.k))) := hr2.isD hb2
 clear hb2 hr2 HB1 HP1
 go_wp2_with fail
 refine (iSum y1 (dsOf v.k) w2 (by rw [dsOf_len]; omega) (vecs_len HSK.out) HD2.out).mono ?_
 rintro e w3 ⟨rfl, hb3⟩
 have HB3 : Hid (Below w.heap.size w w3) := HB2.out.trans (hb3.mono HB2.out.size)
 clear hb3
 have hsr := sumW_range (dsOf v.k)
 go_wp2
 go_ret
 exact ⟨ret_int (liveN_yes _ HOK.out).symm, HB3.out⟩
end Go.Proofs.YtnlhcdchmgfipaaGreat
