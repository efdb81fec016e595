/- What is drawn for numbers at random: whatever numbers come out. -/
import Derived.Test.YtmpnlmmmopablaaNDraw
namespace Go.Proofs.Ytmpnlmmmopablaa
open Go.RowKit

theorem list7 (w : World) (T : TypeId) (y0 y1 y2 y3 y4 y5 y6 : Int) : ListAt (w.alloc (.cells #[.int .i64 y0, .int .i64 y1, .int .i64 y2, .int .i64 y3, .int .i64 y4, .int .i64 y5, .int .i64 y6] T)) w.heap.size 7 (fun _ => True) :=
  ⟨by simp, fun j hj => by
    match j, hj with
    | 0, _ => exact ⟨y0, trivial, by simp⟩
    | 1, _ => exact ⟨y1, trivial, by simp⟩
    | 2, _ => exact ⟨y2, trivial, by simp⟩
    | 3, _ => exact ⟨y3, trivial, by simp⟩
    | 4, _ => exact ⟨y4, trivial, by simp⟩
    | 5, _ => exact ⟨y5, trivial, by simp⟩
    | 6, _ => exact ⟨y6, trivial, by simp⟩⟩
theorem list6 (w : World) (T : TypeId) (y0 y1 y2 y3 y4 y5 : Int) : ListAt (w.alloc (.cells #[.int .i64 y0, .int .i64 y1, .int .i64 y2, .int .i64 y3, .int .i64 y4, .int .i64 y5] T)) w.heap.size 6 (fun _ => True) :=
  ⟨by simp, fun j hj => by
    match j, hj with
    | 0, _ => exact ⟨y0, trivial, by simp⟩
    | 1, _ => exact ⟨y1, trivial, by simp⟩
    | 2, _ => exact ⟨y2, trivial, by simp⟩
    | 3, _ => exact ⟨y3, trivial, by simp⟩
    | 4, _ => exact ⟨y4, trivial, by simp⟩
    | 5, _ => exact ⟨y5, trivial, by simp⟩⟩
theorem Cur.alloc {w : World} {c : Nat} (H : Cur w c) (o : Obj) : Cur (w.alloc o) c := H.below ((Below.refl _ w).alloc (Nat.le_refl _) o) H.lt
theorem Cur.ne {w : World} {c : Nat} (H : Cur w c) : ¬ w.heap.size = c := by have := H.lt; omega

set_option maxHeartbeats 2000000 in
theorem seed_any (c : Nat) (w : World) (H : Cur w c) :
    Calls Try.prog 38 #[.pointer (some ⟨c, 0, none⟩)] w fun e w' => ∃ y : Int, e = .returned (.int .i64 y) ∧ Cur w' c ∧ Turns (fun k => k = c) w w' := by
  have HC : Hid (Cur w c) := H
  clear H
  go_enter Try.func38, Try.ntmps38
  go_wp2_with fail
  refine (below_any c _ _ HC.out).mono ?_
  rintro e w1 ⟨x, rfl, hx0, _, hC1, hT1⟩
  have HC1 : Hid (Cur w1 c) := hC1
  have HT1 : Hid (Turns (fun k => k = c) w w1) := hT1
  clear hC1 hT1
  go_wp2_with fail
  refine (pick_any c w1.heap.size 7 (fun _ => True) _ (by omega) (by omega) HC1.out.ne (HC1.out.alloc _) (list7 _ _ _ _ _ _ _ _ _)).mono ?_
  rintro e w2 ⟨y, rfl, _, hC2, hT2⟩
  have HC2 : Hid (Cur w2 c) := hC2
  have HT2 : Hid (Turns (fun k => k = c) w w2) := (HT1.out.alloc _).trans hT2
  clear hC2 hT2
  go_wp2
  go_ret
  exact ⟨y, rfl, HC2.out, HT2.out⟩

set_option maxHeartbeats 2000000 in
theorem drawRand_any (a : Option Addr) (n cap : Nat) (w : World) (hn : n ≤ 281474976710656) (hC : CodeIn w w.heap.size a n) :
    Calls Try.prog 32 #[.slice a n cap] w fun e w' => ∃ x y z : Int, e = .returned (.tuple #[.int .i64 x, .int .i64 y, .int .i64 z]) ∧ Below w.heap.size w w' := by
  have HC : Hid (CodeIn w w.heap.size a n) := hC
  clear hC
  go_enter Try.func32, Try.ntmps32
  go_wp2_with fail
  refine (new_any a n cap _ hn HC.out).mono ?_
  rintro e w1 ⟨c, rfl, hc, hC1, hB1⟩
  have HC1 : Hid (Cur w1 c) := hC1
  have HB1 : Hid (Below w.heap.size w w1) := hB1
  clear hC1 hB1
  go_wp2_with fail
  refine (seed_any c _ HC1.out).mono ?_
  rintro e w2 ⟨x, rfl, hC2, hT2⟩
  have HC2 : Hid (Cur w2 c) := hC2
  have HB2 : Hid (Below w.heap.size w w2) := HB1.out.trans (hT2.to_below (fun k hk => by omega) HB1.out.size)
  clear hC2 hT2
  go_wp2_with fail
  refine (below_any c _ _ HC2.out).mono ?_
  rintro e w3 ⟨y, rfl, hy0, hy1, hC3, hT3⟩
  have hy2 := hy1 (by omega)
  have HC3 : Hid (Cur w3 c) := hC3
  have HB3 : Hid (Below w.heap.size w w3) := HB2.out.trans (hT3.to_below (fun k hk => by omega) HB2.out.size)
  clear hC3 hT3 hy1
  go_wp2_with fail
  refine (below_any c _ _ HC3.out).mono ?_
  rintro e w4 ⟨z, rfl, hz0, _, hC4, hT4⟩
  have HC4 : Hid (Cur w4 c) := hC4
  have HB4 : Hid (Below w.heap.size w w4) := HB3.out.trans (hT4.to_below (fun k hk => by omega) HB3.out.size)
  clear hC4 hT4
  go_wp2_with fail
  refine (pick_any c w4.heap.size 7 (fun _ => True) _ (by omega) (by omega) HC4.out.ne (HC4.out.alloc _) (list7 _ _ _ _ _ _ _ _ _)).mono ?_
  rintro e w5 ⟨t, rfl, _, hC5, hT5⟩
  have HB5 : Hid (Below w.heap.size w w5) := (HB4.out.alloc HB4.out.size _).trans (hT5.to_below (fun k hk => by omega) (by have := HB4.out.size; simp; omega))
  clear hC5 hT5
  go_wp2
  exact bodyPost_ret (v := .tuple #[.int .i64 x, .int .i64 (y - 1), .int .i64 t]) (by simp [results, Try.results32, go_sem]) rfl ⟨_, _, _, rfl, HB5.out⟩

set_option maxHeartbeats 2000000 in
theorem drawBelow_any (a : Option Addr) (n cap : Nat) (w : World) (hn : n ≤ 281474976710656) (hC : CodeIn w w.heap.size a n) :
    Calls Try.prog 20 #[.slice a n cap] w fun e w' => ∃ x y z t : Int, e = .returned (.tuple #[.int .i64 x, .int .i64 y, .int .i64 z, .int .i64 t]) ∧ Below w.heap.size w w' := by
  have HC : Hid (CodeIn w w.heap.size a n) := hC
  clear hC
  go_enter Try.func20, Try.ntmps20
  go_wp2_with fail
  refine (drawRand_any a n cap _ hn HC.out).mono ?_
  rintro e w1 ⟨x, y, z, rfl, hB1⟩
  have HB1 : Hid (Below w.heap.size w w1) := hB1
  clear hB1
  go_wp2_with fail
  refine (new_any a n cap _ hn ((HC.out.below HB1.out (Nat.le_refl _)).mono HB1.out.size)).mono ?_
  rintro e w2 ⟨c, rfl, hc, hC2, hB2⟩
  have HC2 : Hid (Cur w2 c) := hC2
  have HB2 : Hid (Below w.heap.size w w2) := HB1.out.trans (hB2.mono HB1.out.size)
  have hc' : w.heap.size ≤ c := Nat.le_trans HB1.out.size hc
  clear hC2 hB2
  go_wp2_with fail
  refine (pick_any c w2.heap.size 6 (fun _ => True) _ (by omega) (by omega) HC2.out.ne (HC2.out.alloc _) (list6 _ _ _ _ _ _ _ _)).mono ?_
  rintro e w3 ⟨t, rfl, _, hC3, hT3⟩
  have HB3 : Hid (Below w.heap.size w w3) := (HB2.out.alloc HB2.out.size _).trans (hT3.to_below (fun k hk => by omega) (by have := HB2.out.size; simp; omega))
  clear hC3 hT3
  go_wp2
  exact bodyPost_ret (v := .tuple #[.int .i64 x, .int .i64 y, .int .i64 z, .int .i64 t]) (by simp [results, Try.results20, go_sem]) rfl ⟨_, _, _, _, rfl, HB3.out⟩

set_option maxHeartbeats 2000000 in
theorem drawRow_any (a : Option Addr) (n cap : Nat) (w : World) (hn : n ≤ 281474976710656) (hC : CodeIn w w.heap.size a n) :
    Calls Try.prog 23 #[.slice a n cap] w fun e w' => ∃ x y z t : Int, e = .returned (.tuple #[.int .i64 x, .int .i64 y, .int .i64 z, .int .i64 t]) ∧ Below w.heap.size w w' := by
  have HC : Hid (CodeIn w w.heap.size a n) := hC
  clear hC
  go_enter Try.func23, Try.ntmps23
  go_wp2_with fail
  refine (drawRand_any a n cap _ hn HC.out).mono ?_
  rintro e w1 ⟨x, y, z, rfl, hB1⟩
  have HB1 : Hid (Below w.heap.size w w1) := hB1
  clear hB1
  go_wp2_with fail
  refine (new_any a n cap _ hn ((HC.out.below HB1.out (Nat.le_refl _)).mono HB1.out.size)).mono ?_
  rintro e w2 ⟨c, rfl, hc, hC2, hB2⟩
  have HC2 : Hid (Cur w2 c) := hC2
  have HB2 : Hid (Below w.heap.size w w2) := HB1.out.trans (hB2.mono HB1.out.size)
  have hc' : w.heap.size ≤ c := Nat.le_trans HB1.out.size hc
  clear hC2 hB2
  go_wp2_with fail
  refine (pick_any c w2.heap.size 6 (fun _ => True) _ (by omega) (by omega) HC2.out.ne (HC2.out.alloc _) (list6 _ _ _ _ _ _ _ _)).mono ?_
  rintro e w3 ⟨t, rfl, _, hC3, hT3⟩
  have HB3 : Hid (Below w.heap.size w w3) := (HB2.out.alloc HB2.out.size _).trans (hT3.to_below (fun k hk => by omega) (by have := HB2.out.size; simp; omega))
  clear hC3 hT3
  go_wp2
  exact bodyPost_ret (v := .tuple #[.int .i64 x, .int .i64 y, .int .i64 z, .int .i64 t]) (by simp [results, Try.results23, go_sem]) rfl ⟨_, _, _, _, rfl, HB3.out⟩

set_option maxHeartbeats 2000000 in
theorem drawMixed_any (a : Option Addr) (n cap : Nat) (w : World) (hn : n ≤ 281474976710656) (hC : CodeIn w w.heap.size a n) :
    Calls Try.prog 21 #[.slice a n cap] w fun e w' => ∃ x : Int, e = .returned (.int .i64 x) ∧ Below w.heap.size w w' := by
  have HC : Hid (CodeIn w w.heap.size a n) := hC
  clear hC
  go_enter Try.func21, Try.ntmps21
  go_wp2_with fail
  refine (new_any a n cap _ hn HC.out).mono ?_
  rintro e w2 ⟨c, rfl, hc, hC2, hB2⟩
  have HC2 : Hid (Cur w2 c) := hC2
  have HB2 : Hid (Below w.heap.size w w2) := hB2
  clear hC2 hB2
  go_wp2_with fail
  refine (below_any c _ _ HC2.out).mono ?_
  rintro e w3 ⟨z, rfl, hz0, _, hC3, hT3⟩
  have HC3 : Hid (Cur w3 c) := hC3
  have HB3 : Hid (Below w.heap.size w w3) := HB2.out.trans (hT3.to_below (fun k hk => by omega) HB2.out.size)
  clear hC3 hT3
  go_wp2_with fail
  refine (pick_any c w3.heap.size 6 (fun _ => True) _ (by omega) (by omega) HC3.out.ne (HC3.out.alloc _) (list6 _ _ _ _ _ _ _ _)).mono ?_
  rintro e w4 ⟨t, rfl, _, hC4, hT4⟩
  have HB4 : Hid (Below w.heap.size w w4) := (HB3.out.alloc HB3.out.size _).trans (hT4.to_below (fun k hk => by omega) (by have := HB3.out.size; simp; omega))
  clear hC4 hT4
  go_wp2
  go_ret
  exact ⟨_, rfl, HB4.out⟩
end Go.Proofs.Ytmpnlmmmopablaa
