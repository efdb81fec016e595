/- The law of the text: the walk. -/
import Derived.Test.YtcnlkccmibnhmabDoorTextS
import Derived.Test.YtcnlkccmibnhmabDoorTextI
namespace Go.Proofs.YtcnlkccmibnhmabDoor
open Go.RowKit
set_option maxHeartbeats 2000000 in
theorem sText_no (t s q d k v g : Int) (w : World) (hok : okB t s q d k v g = false) :
    Calls Tryd.prog 4 #[.agg #[.int .i64 t, .int .i64 s, .int .i64 q, .int .i64 d, .int .i64 k, .int .i64 v, .int .i64 g]] w fun e w' => ∃ x, e = .returned x ∧ OwnB w.heap.size w' x [] ∧ Below w.heap.size w w' := by
  have HBw : Hid (Below w.heap.size w (w.alloc (.cells #[.int .i64 t, .int .i64 s, .int .i64 q, .int .i64 d, .int .i64 k, .int .i64 v, .int .i64 g] 26))) := (Below.refl _ w).alloc (Nat.le_refl _) _
  have HC : Hid (Calls Tryd.prog 10 #[.agg #[.int .i64 t, .int .i64 s, .int .i64 q, .int .i64 d, .int .i64 k, .int .i64 v, .int .i64 g]] (w.alloc (.cells #[.int .i64 t, .int .i64 s, .int .i64 q, .int .i64 d, .int .i64 k, .int .i64 v, .int .i64 g] 26)) fun e w' => e = .returned (.bool false) ∧ Below (w.alloc (.cells #[.int .i64 t, .int .i64 s, .int .i64 q, .int .i64 d, .int .i64 k, .int .i64 v, .int .i64 g] 26)).heap.size (w.alloc (.cells #[.int .i64 t, .int .i64 s, .int .i64 q, .int .i64 d, .int .i64 k, .int .i64 v, .int .i64 g] 26)) w') := by
    refine (sOk_any t s q d k v g _).mono ?_
    rintro e w' ⟨rfl, hb⟩
    rw [hok]
    exact ⟨rfl, hb⟩
  clear hok
  go_enter Tryd.func4, Tryd.ntmps4
  go_wp2_with fail
  refine HC.out.mono ?_
  rintro r wk ⟨rfl, hbk⟩
  go_wp2
  go_ret
  exact ⟨_, rfl, OwnB.nil _ _, HBw.out.trans (hbk.mono (by simp))⟩
set_option maxHeartbeats 2000000 in
theorem sText_ok (t s q d k v g : Int) (w : World) (hok : okB t s q d k v g = true) :
    Calls Tryd.prog 4 #[.agg #[.int .i64 t, .int .i64 s, .int .i64 q, .int .i64 d, .int .i64 k, .int .i64 v, .int .i64 g]] w fun e w' => ∃ x, e = .returned x ∧ OwnB w.heap.size w' x (evText t s q d k v) ∧ Below w.heap.size w w' := by
  have hr := of_decide_eq_true hok
  have HX : Hid (∀ w : World, Calls Tryd.prog 11 #[.agg #[.int .i64 t, .int .i64 s, .int .i64 q, .int .i64 d, .int .i64 k, .int .i64 v, .int .i64 g]] w fun e w' => ∃ x, e = .returned x ∧ OwnB w.heap.size w' x (evText t s q d k v) ∧ Below w.heap.size w w') :=
    fun w => text_any t s q d k v g w (by omega) (by omega) (by omega) (by omega) (by omega) (by omega) (by omega) (by omega) (by omega) (by omega) (by omega)
  have HBw : Hid (Below w.heap.size w (w.alloc (.cells #[.int .i64 t, .int .i64 s, .int .i64 q, .int .i64 d, .int .i64 k, .int .i64 v, .int .i64 g] 26))) := (Below.refl _ w).alloc (Nat.le_refl _) _
  have HE : Hid (EvAt (w.alloc (.cells #[.int .i64 t, .int .i64 s, .int .i64 q, .int .i64 d, .int .i64 k, .int .i64 v, .int .i64 g] 26)) w.heap.size 0 t s q d k v g) := EvAt.new w 26 t s q d k v g
  have hbx : w.heap.size < (w.alloc (.cells #[.int .i64 t, .int .i64 s, .int .i64 q, .int .i64 d, .int .i64 k, .int .i64 v, .int .i64 g] 26)).heap.size := by simp
  clear hr
  go_enter Tryd.func4, Tryd.ntmps4
  go_upto_region 1 with fail
  generalize (w.alloc (.cells #[.int .i64 t, .int .i64 s, .int .i64 q, .int .i64 d, .int .i64 k, .int .i64 v, .int .i64 g] 26)) = W0 at *
  generalize hbxe : w.heap.size = bx at *
  obtain ⟨f0, f1, f2, f3, f4, f5, f6⟩ := HE.out.lits
  go_wp2_with fail
  refine (sOk_any t s q d k v g _).mono ?_
  rintro r wk ⟨rfl, hbk⟩
  rw [hok]
  clear f0 f1 f2 f3 f4 f5 f6 hok
  obtain ⟨f0, f1, f2, f3, f4, f5, f6⟩ := (HE.out.below hbk hbx).lits
  have HBk : Hid (Below W0.heap.size W0 wk) := hbk
  clear hbk
  go_wp2_with fail
  refine (HX.out wk).mono ?_
  rintro r w2 ⟨x, rfl, hx, hb2⟩
  go_wp2
  go_ret
  subst hbxe
  have hz := HBk.out.size
  exact ⟨x, rfl, hx.mono (by omega), HBw.out.trans ((HBk.out.trans (hb2.mono hz)).mono (by omega))⟩
theorem sText_any (t s q d k v g : Int) (w : World) :
    Calls Tryd.prog 4 #[.agg #[.int .i64 t, .int .i64 s, .int .i64 q, .int .i64 d, .int .i64 k, .int .i64 v, .int .i64 g]] w fun e w' => ∃ x, e = .returned x ∧ OwnB w.heap.size w' x (theText t s q d k v g) ∧ Below w.heap.size w w' := by
  unfold theText
  by_cases hok : okB t s q d k v g = true
  · rw [if_pos hok]; exact sText_ok t s q d k v g w hok
  · rw [if_neg hok]; exact sText_no t s q d k v g w (by simpa using hok)
/- The slice x reads as l, in a block below B. -/
def LowB (B : Nat) (w : World) (x : Value) (l : List UInt8) : Prop := B ≤ w.heap.size ∧ ∃ a cap, x = .slice a l.length cap ∧ l.length ≤ cap ∧ cap ≤ maxLen ∧ (l = [] ∨ ∃ b off, a = some ⟨b, off, none⟩ ∧ b < B ∧ BytesAt w b off l)
theorem IsB.low {w : World} {x : Value} {l : List UInt8} (h : IsB w x l) : LowB w.heap.size w x l := by
  obtain ⟨a, cap, rfl, h1, h2, h⟩ := h
  exact ⟨Nat.le_refl _, a, cap, rfl, h1, h2, h.imp id (fun ⟨b, off, e, h⟩ => ⟨b, off, e, h.1, h⟩)⟩
theorem LowB.isB {B : Nat} {w : World} {x : Value} {l : List UInt8} (h : LowB B w x l) : IsB w x l := by
  obtain ⟨_, a, cap, rfl, h1, h2, h⟩ := h
  exact ⟨a, cap, rfl, h1, h2, h.imp id (fun ⟨b, off, e, _, h⟩ => ⟨b, off, e, h⟩)⟩
theorem LowB.below {B : Nat} {w w' : World} {x : Value} {l : List UInt8} (h : LowB B w x l) (hb : Below B w w') : LowB B w' x l := by
  obtain ⟨h0, a, cap, rfl, h1, h2, h⟩ := h
  exact ⟨Nat.le_trans h0 hb.size, a, cap, rfl, h1, h2, h.imp id (fun ⟨b, off, e, hB, h⟩ => ⟨b, off, e, hB, h.below hb hB⟩)⟩
set_option maxRecDepth 100000 in
set_option maxHeartbeats 8000000 in
theorem walk (t s q d k v g : Int) (w : World) (htab : Lib.TabIs Tryd.prog w "internal/strconv.uint64pow10" .u64 Lib.pow10Tab) :
    Calls Tryd.prog 3 #[.agg #[.int .i64 t, .int .i64 s, .int .i64 q, .int .i64 d, .int .i64 k, .int .i64 v, .int .i64 g]] w fun e w' => e = .returned (.bool true) ∧ Below w.heap.size w w' := by
  have HBw : Hid (Below w.heap.size w (w.alloc (.cells #[.int .i64 t, .int .i64 s, .int .i64 q, .int .i64 d, .int .i64 k, .int .i64 v, .int .i64 g] 23))) := (Below.refl _ w).alloc (Nat.le_refl _) _
  have HE : Hid (EvAt (w.alloc (.cells #[.int .i64 t, .int .i64 s, .int .i64 q, .int .i64 d, .int .i64 k, .int .i64 v, .int .i64 g] 23)) w.heap.size 0 t s q d k v g) := EvAt.new w 23 t s q d k v g
  have hbx : w.heap.size < (w.alloc (.cells #[.int .i64 t, .int .i64 s, .int .i64 q, .int .i64 d, .int .i64 k, .int .i64 v, .int .i64 g] 23)).heap.size := by simp
  have HT0 : Hid (Lib.TabIs Tryd.prog (w.alloc (.cells #[.int .i64 t, .int .i64 s, .int .i64 q, .int .i64 d, .int .i64 k, .int .i64 v, .int .i64 g] 23)) "internal/strconv.uint64pow10" .u64 Lib.pow10Tab) := tab_kept htab HBw.out
  obtain ⟨l, hl⟩ : ∃ l, l = (theText t s q d k v g) := ⟨_, rfl⟩
  have hlen : l.length ≤ 4611686018427387904 := by
    have := theText_len t s q d k v g
    rw [hl]; omega
  have HS : Hid (∀ w : World, Calls Tryd.prog 4 #[.agg #[.int .i64 t, .int .i64 s, .int .i64 q, .int .i64 d, .int .i64 k, .int .i64 v, .int .i64 g]] w fun e w' => ∃ x, e = .returned x ∧ OwnB w.heap.size w' x l ∧ Below w.heap.size w w') := fun w => by
    rw [hl]; exact sText_any t s q d k v g w
  have HI : Hid (∀ w : World, Lib.TabIs Tryd.prog w "internal/strconv.uint64pow10" .u64 Lib.pow10Tab → Calls Tryd.prog 6 #[.agg #[.int .i64 t, .int .i64 s, .int .i64 q, .int .i64 d, .int .i64 k, .int .i64 v, .int .i64 g]] w fun e w' => ∃ x, e = .returned x ∧ OwnB w.heap.size w' x l ∧ Below w.heap.size w w') := fun w h => by
    rw [hl]; exact iText_any t s q d k v g w h
  clear htab hl
  go_enter Tryd.func3, Tryd.ntmps3
  go_upto_region 1 with fail
  generalize (w.alloc (.cells #[.int .i64 t, .int .i64 s, .int .i64 q, .int .i64 d, .int .i64 k, .int .i64 v, .int .i64 g] 23)) = W0 at *
  generalize hbxe : w.heap.size = bx at *
  obtain ⟨f0, f1, f2, f3, f4, f5, f6⟩ := HE.out.lits
  go_wp2_with fail
  refine (toEvent_any t s q d k v g _).mono ?_
  rintro r w1 ⟨rfl, hb1⟩
  have HB1 : Hid (Below W0.heap.size W0 w1) := hb1
  clear f0 f1 f2 f3 f4 f5 f6 hb1
  go_wp2_with fail
  refine (HS.out w1).mono ?_
  rintro r w2 ⟨x, rfl, hx, hb2⟩
  have HB2 : Hid (Below W0.heap.size W0 w2) := HB1.out.trans (hb2.mono HB1.out.size)
  have HX2 : Hid (LowB w2.heap.size w2 x l) := hx.isB.low
  obtain ⟨f0, f1, f2, f3, f4, f5, f6⟩ := (HE.out.below HB2.out hbx).lits
  clear hx hb2 HB1
  go_wp2_with fail
  refine (toEvent_any t s q d k v g _).mono ?_
  rintro r w3 ⟨rfl, hb3⟩
  have HB3 : Hid (Below W0.heap.size W0 w3) := HB2.out.trans (hb3.mono HB2.out.size)
  have HX3 : Hid (LowB w2.heap.size w3 x l) := HX2.out.below hb3
  have hz23 := hb3.size
  clear hb3 HX2 f0 f1 f2 f3 f4 f5 f6
  go_wp2_with fail
  refine (HI.out w3 (tab_kept HT0.out HB3.out)).mono ?_
  rintro r w4 ⟨y, rfl, hy, hb4⟩
  have HB4 : Hid (Below W0.heap.size W0 w4) := HB3.out.trans (hb4.mono HB3.out.size)
  have HX4 : Hid (LowB w2.heap.size w4 x l) := HX3.out.below (hb4.mono hz23)
  have HY4 : Hid (OwnB w3.heap.size w4 y l) := hy
  have hz34 := hb4.size
  clear hb4 hy HX3 HB3
  go_wp2_with fail
  refine (eqB_same y x l w4 hlen HY4.out.isB HX4.out.isB).mono ?_
  rintro r w5 ⟨rfl, hb5⟩
  have HB5 : Hid (Below W0.heap.size W0 w5) := HB4.out.trans (hb5.mono HB4.out.size)
  have HX5 : Hid (LowB w2.heap.size w5 x l) := HX4.out.below (hb5.mono (by omega))
  have HY5 : Hid (OwnB w3.heap.size w5 y l) := HY4.out.below hb5
  have hz45 := hb5.size
  have hz02 := HB2.out.size
  clear hb5 HX4 HY4 HB4
  go_wp2_with fail
  refine (markB_own HY5.out hlen).mono ?_
  rintro r w6 ⟨m, hm, rfl, hh6, ht6⟩
  have HH6 : Hid (HeldB w6 y m) := hh6
  have hbt : Below w3.heap.size w5 w6 := ht6.below (by omega)
  have HB6 : Hid (Below W0.heap.size W0 w6) := HB5.out.trans (hbt.mono (by omega))
  have HX6 : Hid (LowB w2.heap.size w6 x l) := HX5.out.below (hbt.mono (by omega))
  have hz56 := hbt.size
  have hmn : ¬ (m < 0) := by omega
  clear hh6 ht6 hbt HX5 HY5 HB5
  go_wp2_with fail
  refine (heldB_in HH6.out).mono ?_
  rintro r w' ⟨rfl, hw⟩
  have hw' := hw.symm
  clear hw
  subst hw'
  obtain ⟨f0, f1, f2, f3, f4, f5, f6⟩ := (HE.out.below HB6.out hbx).lits
  go_wp2_with fail
  refine (toEvent_any t s q d k v g _).mono ?_
  rintro r w7 ⟨rfl, hb7⟩
  have HB7 : Hid (Below W0.heap.size W0 w7) := HB6.out.trans (hb7.mono HB6.out.size)
  have HX7 : Hid (LowB w2.heap.size w7 x l) := HX6.out.below (hb7.mono (by omega))
  have HH7 : Hid (HeldB w7 y m) := HH6.out.below hb7
  have hz67 := hb7.size
  clear hb7 HX6 HH6 HB6 f0 f1 f2 f3 f4 f5 f6
  go_wp2_with fail
  refine (HI.out w7 (tab_kept HT0.out HB7.out)).mono ?_
  rintro r w8 ⟨z, rfl, hz, hb8⟩
  have HB8 : Hid (Below W0.heap.size W0 w8) := HB7.out.trans (hb8.mono HB7.out.size)
  have HX8 : Hid (LowB w2.heap.size w8 x l) := HX7.out.below (hb8.mono (by omega))
  have HH8 : Hid (HeldB w8 y m) := HH7.out.below hb8
  have HZ8 : Hid (IsB w8 z l) := hz.isB
  have hz78 := hb8.size
  clear hb8 HX7 HH7 HB7 hz
  go_wp2_with fail
  refine (eqB_same z x l w8 hlen HZ8.out HX8.out.isB).mono ?_
  rintro r w9 ⟨rfl, hb9⟩
  have HB9 : Hid (Below W0.heap.size W0 w9) := HB8.out.trans (hb9.mono HB8.out.size)
  have HH9 : Hid (HeldB w9 y m) := HH8.out.below hb9
  clear hb9 HX8 HH8 HB8 HZ8
  go_wp2_with fail
  refine (heldB_in HH9.out).mono ?_
  rintro r w' ⟨rfl, hw⟩
  have hw' := hw.symm
  clear hw
  subst hw'
  go_wp2
  go_ret
  subst hbxe
  exact ⟨rfl, HBw.out.trans (HB9.out.mono (by omega))⟩
end Go.Proofs.YtcnlkccmibnhmabDoor
