/- KMk, TPpB -/
import Derived.Test.YthfhibnnkpbeiaaGreatExactKernelNewG31
import Derived.Test.YthfhibnnkpbeiaaGreatExactKernelNewG43
import Derived.Test.YthfhibnnkpbeiaaGreatExactKernelNewG06
import Derived.Test.YthfhibnnkpbeiaaGreatExactKernelNewG08
import Derived.Deep.RegionHeld3
/- markKernel, heldKernel of a kernel with no mail. -/
namespace Go.Proofs.YthfhibnnkpbeiaaGreat
open Go.RowKit
structure TinyK (k : Kn) : Prop where
 b : k.b = []
 m : SmallM k.m
 d : k.d.length ≤ 1048576
 p : (partsD k.p).wt ≤ 100000
 s : k.s.length ≤ 1000
 x : k.x.length ≤ 1000
def mk6 (k : Kn) : Int := markNo k.m + ((intsD k.d).cnt : Int)
def mk7 (k : Kn) : Int := mk6 k + ((partsD k.p).cnt : Int)
def mk12 (k : Kn) : Int := mk7 k + ((evsD k.s).cnt : Int)
def markKn (k : Kn) : Int := mk12 k + ((emsD k.x).cnt : Int)
theorem markNo_top {m : Md} (h : SmallM m) : markNo m ≤ 1000000000 := by
 have h1 := h.i
 have h2 := h.t
 have h3 := h.e
 unfold markNo
 omega
theorem tiny_marks {k : Kn} (h : TinyK k) : 1 ≤ markNo k.m ∧ markNo k.m ≤ mk6 k ∧ mk6 k ≤ mk7 k ∧ mk7 k ≤ mk12 k ∧ mk12 k ≤ markKn k ∧ markKn k ≤ 1073741824 := by
 have h0 := markNo_pos k.m
 have h1 := markNo_top h.m
 have h2 := h.d
 have h3 := h.p
 have h4 := h.s
 have h5 := h.x
 have h7 : (partsD k.p).cnt ≤ 40 * (partsD k.p).wt := Dat.cnt_le (parts_thin k.p)
 unfold markKn mk12 mk7 mk6
 rw [ints_cnt, evs_cnt, ems_cnt]
 omega
def HeldKn (F : Nat → Prop) (w : World) (y : Value) (k : Kn) : Prop := ∃ (A0 A6 A7 A12 A13 : Nat → Prop) (vi vh vs u6 u7 : Value) (a8 : Option Addr) (c8 : Nat) (u12 u13 : Value), y = .agg #[.int .i64 k.m.n, .int .i64 k.m.s, vi, vh, vs, .int .i64 k.m.z, u6, u7, .slice a8 0 c8, .int .i64 k.t, .int .i64 k.q, .bool k.f, u12, u13] ∧ HeldM A0 w (.agg #[.int .i64 k.m.n, .int .i64 k.m.s, vi, vh, vs, .int .i64 k.m.z]) k.m ∧ OwnD w A6 u6 ((intsD k.d).mark (markNo k.m)) ∧ OwnD w A7 u7 ((partsD k.p).mark (mk6 k)) ∧ OwnD w A12 u12 ((evsD k.s).mark (mk7 k)) ∧ OwnD w A13 u13 ((emsD k.x).mark (mk12 k)) ∧ (∀ j, A0 j → F j) ∧ (∀ j, A6 j → F j) ∧ (∀ j, A7 j → F j) ∧ (∀ j, A12 j → F j) ∧ (∀ j, A13 j → F j)
theorem HeldKn.turns {F S : Nat → Prop} {w w' : World} {y : Value} {k : Kn} (h : HeldKn F w y k) (ht : Turns S w w') (hS : ∀ j, F j → ¬ S j) : HeldKn F w' y k := by
 obtain ⟨A0, A6, A7, A12, A13, vi, vh, vs, u6, u7, a8, c8, u12, u13, rfl, hm, h6, h7, h12, h13, d0, d6, d7, d12, d13⟩ := h
 exact ⟨A0, A6, A7, A12, A13, vi, vh, vs, u6, u7, a8, c8, u12, u13, rfl, hm.turns ht (fun j hj => hS j (d0 j hj)), h6.turns ht (fun j hj => hS j (d6 j hj)), h7.turns ht (fun j hj => hS j (d7 j hj)), h12.turns ht (fun j hj => hS j (d12 j hj)), h13.turns ht (fun j hj => hS j (d13 j hj)), d0, d6, d7, d12, d13⟩
theorem HeldKn.below {F : Nat → Prop} {w w' : World} {y : Value} {k : Kn} (h : HeldKn F w y k) (hb : Below w.heap.size w w') : HeldKn F w' y k := h.turns (S := fun _ => False) (Turns.of_below hb) (fun _ _ => id)
theorem KernF.below {F : Nat → Prop} {w w' : World} {y : Value} {k : Kn} (h : KernF F w y k) (hb : Below w.heap.size w w') : KernF F w' y k := h.turns (S := fun _ => False) (Turns.of_below hb) (fun _ _ => id)
set_option maxHeartbeats 2000000 in
theorem markMl_nil (a : Option Addr) (cap : Nat) (z : Int) (w : World) : Calls Tryz.prog 44 #[.slice a 0 cap, .int .i64 z] w fun e w' => e = .returned (.int .i64 z) ∧ w' = w := by
 go_enter Tryz.func44, Tryz.ntmps44
 go_wp2
 go_loopw [5, 1] (fun i y wr => i = .int .i64 0 ∧ y = .int .i64 z ∧ wr = w) (fun _ _ _ => 0)
 case atStart => exact ⟨rfl, rfl, rfl⟩
 case round =>
  obtain ⟨rfl, rfl, rfl⟩ := hrel
  go_wp2
  go_ret
  exact ⟨rfl, rfl⟩
set_option maxHeartbeats 2000000 in
theorem heldMl_nil (a : Option Addr) (cap : Nat) (z : Int) (w : World) : Calls Tryz.prog 49 #[.slice a 0 cap, .int .i64 z] w fun e w' => e = .returned (.int .i64 z) ∧ w' = w := by
 go_enter Tryz.func49, Tryz.ntmps49
 go_wp2
 go_loopw [5, 1] (fun i y wr => i = .int .i64 0 ∧ y = .int .i64 z ∧ wr = w) (fun _ _ _ => 0)
 case atStart => exact ⟨rfl, rfl, rfl⟩
 case round =>
  obtain ⟨rfl, rfl, rfl⟩ := hrel
  go_wp2
  go_ret
  exact ⟨rfl, rfl⟩
set_option maxRecDepth 100000 in
set_option maxHeartbeats 8000000 in
theorem markKernel_any {F : Nat → Prop} {x : Value} {k : Kn} {w : World} (hs : TinyK k) (h : KernF F w x k) (hF : ∀ j, F j → j < w.heap.size) :
  Calls Tryz.prog 15 #[x, .int .i64 1] w fun e w' => e = .returned (.int .i64 (markKn k)) ∧ HeldKn F w' x k ∧ Turns F w w' := by
 obtain ⟨A0, A6, A7, A8, A12, A13, vi, vh, vs, u6, u7, u8, u12, u13, rfl, hm, h6, h7, h8, h12, h13, d0, d6, d7, d8, d12, d13⟩ := h
 rw [hs.b] at h8
 obtain ⟨a8, c8, rfl, _⟩ := IsD.len h8.isD
 have HS : Hid (TinyK k) := hs
 obtain ⟨hz0, hz1, hz2, hz3, hz4, hz5⟩ := tiny_marks hs
 have HF : Hid (∀ j, F j → j < w.heap.size) := hF
 obtain ⟨W0, hW0⟩ : ∃ W0, w.alloc (.cells #[.int .i64 k.m.n, .int .i64 k.m.s, vi, vh, vs, .int .i64 k.m.z, u6, u7, .slice a8 0 c8, .int .i64 k.t, .int .i64 k.q, .bool k.f, u12, u13] 36) = W0 := ⟨_, rfl⟩
 have HB0 : Hid (Below w.heap.size w W0) := by rw [← hW0]; exact (Below.refl _ w).alloc (Nat.le_refl _) _
 have HP0 : Hid (Bk W0 w.heap.size 36 #[.int .i64 k.m.n, .int .i64 k.m.s, vi, vh, vs, .int .i64 k.m.z, u6, u7, .slice a8 0 c8, .int .i64 k.t, .int .i64 k.q, .bool k.f, u12, u13]) := by rw [← hW0]; exact Bk.new w _ _
 have HT0 : Hid (Turns F w W0) := Turns.of_below HB0.out
 have HW : Hid (w.alloc (.cells #[.int .i64 k.m.n, .int .i64 k.m.s, vi, vh, vs, .int .i64 k.m.z, u6, u7, .slice a8 0 c8, .int .i64 k.t, .int .i64 k.q, .bool k.f, u12, u13] 36) = W0) := hW0
 have O0_0 : Hid (MdF A0 W0 (.agg #[.int .i64 k.m.n, .int .i64 k.m.s, vi, vh, vs, .int .i64 k.m.z]) k.m) := hm.below HB0.out
 have O6_0 : Hid (OwnD W0 A6 u6 (intsD k.d)) := h6.under HB0.out
 have O7_0 : Hid (OwnD W0 A7 u7 (partsD k.p)) := h7.under HB0.out
 have O12_0 : Hid (OwnD W0 A12 u12 (evsD k.s)) := h12.under HB0.out
 have O13_0 : Hid (OwnD W0 A13 u13 (emsD k.x)) := h13.under HB0.out
 have D0 : Hid (∀ j, A0 j → F j ∧ ¬ A6 j ∧ ¬ A7 j ∧ ¬ A8 j ∧ ¬ A12 j ∧ ¬ A13 j) := d0
 have D6 : Hid (∀ j, A6 j → F j ∧ ¬ A7 j ∧ ¬ A8 j ∧ ¬ A12 j ∧ ¬ A13 j) := d6
 have D7 : Hid (∀ j, A7 j → F j ∧ ¬ A8 j ∧ ¬ A12 j ∧ ¬ A13 j) := d7
 have D12 : Hid (∀ j, A12 j → F j ∧ ¬ A13 j) := d12
 have D13 : Hid (∀ j, A13 j → F j) := d13
 clear hs hF hW0 hm h6 h7 h8 h12 h13 d0 d6 d7 d8 d12 d13
 go_enter Tryz.func15, Tryz.ntmps15
 have p0 := HP0.out.cell (i := 0) rfl
 have p1 := HP0.out.cell (i := 1) rfl
 have p2 := HP0.out.cell (i := 2) rfl
 have p3 := HP0.out.cell (i := 3) rfl
 have p4 := HP0.out.cell (i := 4) rfl
 have p5 := HP0.out.cell (i := 5) rfl
 go_wp2_with fail
 rw [HW.out]
 clear HW p0 p1 p2 p3 p4 p5
 refine (markModel_any HS.out.m O0_0.out (fun j e => Nat.lt_of_lt_of_le (HF.out j (D0.out j e).1) HB0.out.size)).mono ?_
 rintro e w1 ⟨rfl, hr, ht⟩
 have HP1 : Hid (Bk w1 w.heap.size 36 #[.int .i64 k.m.n, .int .i64 k.m.s, vi, vh, vs, .int .i64 k.m.z, u6, u7, .slice a8 0 c8, .int .i64 k.t, .int .i64 k.q, .bool k.f, u12, u13]) := HP0.out.turns ht (fun e => by have := HF.out _ ((D0.out _ e).1); omega)
 have HT1 : Hid (Turns F w w1) := HT0.out.trans (ht.mono (fun j e => (D0.out j e).1))
 have O0_1 : Hid (HeldM A0 w1 (.agg #[.int .i64 k.m.n, .int .i64 k.m.s, vi, vh, vs, .int .i64 k.m.z]) k.m) := hr
 have O6_1 : Hid (OwnD w1 A6 u6 (intsD k.d)) := O6_0.out.turns ht (fun j e e' => (D0.out j e').2.1 e)
 have O7_1 : Hid (OwnD w1 A7 u7 (partsD k.p)) := O7_0.out.turns ht (fun j e e' => (D0.out j e').2.2.1 e)
 have O12_1 : Hid (OwnD w1 A12 u12 (evsD k.s)) := O12_0.out.turns ht (fun j e e' => (D0.out j e').2.2.2.2.1 e)
 have O13_1 : Hid (OwnD w1 A13 u13 (emsD k.x)) := O13_0.out.turns ht (fun j e e' => (D0.out j e').2.2.2.2.2 e)
 clear hr ht HP0 HT0 O0_0 O6_0 O7_0 O12_0 O13_0
 have p6 := HP1.out.cell (i := 6) rfl
 go_wp2_with fail
 clear p6
 refine (mark_ints (F := A6) (l := k.d) (markNo k.m) (by have := HS.out.d; omega) (by omega) (by omega) O6_1.out).mono ?_
 rintro e w2 ⟨rfl, hr, ht⟩
 have HP2 : Hid (Bk w2 w.heap.size 36 #[.int .i64 k.m.n, .int .i64 k.m.s, vi, vh, vs, .int .i64 k.m.z, u6, u7, .slice a8 0 c8, .int .i64 k.t, .int .i64 k.q, .bool k.f, u12, u13]) := HP1.out.turns ht (fun e => by have := HF.out _ ((D6.out _ e).1); omega)
 have HT2 : Hid (Turns F w w2) := HT1.out.trans (ht.mono (fun j e => (D6.out j e).1))
 have O0_2 : Hid (HeldM A0 w2 (.agg #[.int .i64 k.m.n, .int .i64 k.m.s, vi, vh, vs, .int .i64 k.m.z]) k.m) := O0_1.out.turns ht (fun j e e' => (D0.out j e).2.1 e')
 have O6_2 : Hid (OwnD w2 A6 u6 ((intsD k.d).mark (markNo k.m))) := hr
 have O7_2 : Hid (OwnD w2 A7 u7 (partsD k.p)) := O7_1.out.turns ht (fun j e e' => (D6.out j e').2.1 e)
 have O12_2 : Hid (OwnD w2 A12 u12 (evsD k.s)) := O12_1.out.turns ht (fun j e e' => (D6.out j e').2.2.2.1 e)
 have O13_2 : Hid (OwnD w2 A13 u13 (emsD k.x)) := O13_1.out.turns ht (fun j e e' => (D6.out j e').2.2.2.2 e)
 clear hr ht HP1 HT1 O0_1 O6_1 O7_1 O12_1 O13_1
 rw [show markNo k.m + (((intsD k.d)).cnt : Int) = mk6 k from rfl]
 have p7 := HP2.out.cell (i := 7) rfl
 go_wp2_with fail
 clear p7
 refine (mark_parts (F := A7) (l := k.p) (mk6 k) (by have := HS.out.p; omega) (by omega) (by have h9 : mk6 k + ((partsD k.p).cnt : Int) = mk7 k := rfl; omega) O7_2.out).mono ?_
 rintro e w3 ⟨rfl, hr, ht⟩
 have HP3 : Hid (Bk w3 w.heap.size 36 #[.int .i64 k.m.n, .int .i64 k.m.s, vi, vh, vs, .int .i64 k.m.z, u6, u7, .slice a8 0 c8, .int .i64 k.t, .int .i64 k.q, .bool k.f, u12, u13]) := HP2.out.turns ht (fun e => by have := HF.out _ ((D7.out _ e).1); omega)
 have HT3 : Hid (Turns F w w3) := HT2.out.trans (ht.mono (fun j e => (D7.out j e).1))
 have O0_3 : Hid (HeldM A0 w3 (.agg #[.int .i64 k.m.n, .int .i64 k.m.s, vi, vh, vs, .int .i64 k.m.z]) k.m) := O0_2.out.turns ht (fun j e e' => (D0.out j e).2.2.1 e')
 have O6_3 : Hid (OwnD w3 A6 u6 ((intsD k.d).mark (markNo k.m))) := O6_2.out.turns ht (fun j e e' => (D6.out j e).2.1 e')
 have O7_3 : Hid (OwnD w3 A7 u7 ((partsD k.p).mark (mk6 k))) := hr
 have O12_3 : Hid (OwnD w3 A12 u12 (evsD k.s)) := O12_2.out.turns ht (fun j e e' => (D7.out j e').2.2.1 e)
 have O13_3 : Hid (OwnD w3 A13 u13 (emsD k.x)) := O13_2.out.turns ht (fun j e e' => (D7.out j e').2.2.2 e)
 clear hr ht HP2 HT2 O0_2 O6_2 O7_2 O12_2 O13_2
 rw [show mk6 k + (((partsD k.p)).cnt : Int) = mk7 k from rfl]
 have p8 := HP3.out.cell (i := 8) rfl
 go_wp2_with fail
 clear p8
 refine (markMl_nil _ _ (mk7 k) w3).mono ?_
 rintro e w9 ⟨rfl, hw⟩
 have hw' := hw.symm
 clear hw
 subst hw'
 have p12 := HP3.out.cell (i := 12) rfl
 go_wp2_with fail
 clear p12
 refine (mark_evs (F := A12) (l := k.s) (mk7 k) (by have := HS.out.s; omega) (by omega) (by omega) O12_3.out).mono ?_
 rintro e w4 ⟨rfl, hr, ht⟩
 have HP4 : Hid (Bk w4 w.heap.size 36 #[.int .i64 k.m.n, .int .i64 k.m.s, vi, vh, vs, .int .i64 k.m.z, u6, u7, .slice a8 0 c8, .int .i64 k.t, .int .i64 k.q, .bool k.f, u12, u13]) := HP3.out.turns ht (fun e => by have := HF.out _ ((D12.out _ e).1); omega)
 have HT4 : Hid (Turns F w w4) := HT3.out.trans (ht.mono (fun j e => (D12.out j e).1))
 have O0_4 : Hid (HeldM A0 w4 (.agg #[.int .i64 k.m.n, .int .i64 k.m.s, vi, vh, vs, .int .i64 k.m.z]) k.m) := O0_3.out.turns ht (fun j e e' => (D0.out j e).2.2.2.2.1 e')
 have O6_4 : Hid (OwnD w4 A6 u6 ((intsD k.d).mark (markNo k.m))) := O6_3.out.turns ht (fun j e e' => (D6.out j e).2.2.2.1 e')
 have O7_4 : Hid (OwnD w4 A7 u7 ((partsD k.p).mark (mk6 k))) := O7_3.out.turns ht (fun j e e' => (D7.out j e).2.2.1 e')
 have O12_4 : Hid (OwnD w4 A12 u12 ((evsD k.s).mark (mk7 k))) := hr
 have O13_4 : Hid (OwnD w4 A13 u13 (emsD k.x)) := O13_3.out.turns ht (fun j e e' => (D12.out j e').2 e)
 clear hr ht HP3 HT3 O0_3 O6_3 O7_3 O12_3 O13_3
 rw [show mk7 k + (((evsD k.s)).cnt : Int) = mk12 k from rfl]
 have p13 := HP4.out.cell (i := 13) rfl
 go_wp2_with fail
 clear p13
 refine (mark_ems (F := A13) (l := k.x) (mk12 k) (by have := HS.out.x; omega) (by omega) (by omega) O13_4.out).mono ?_
 rintro e w5 ⟨rfl, hr, ht⟩
 have HP5 : Hid (Bk w5 w.heap.size 36 #[.int .i64 k.m.n, .int .i64 k.m.s, vi, vh, vs, .int .i64 k.m.z, u6, u7, .slice a8 0 c8, .int .i64 k.t, .int .i64 k.q, .bool k.f, u12, u13]) := HP4.out.turns ht (fun e => by have := HF.out _ (D13.out _ e); omega)
 have HT5 : Hid (Turns F w w5) := HT4.out.trans (ht.mono (fun j e => D13.out j e))
 have O0_5 : Hid (HeldM A0 w5 (.agg #[.int .i64 k.m.n, .int .i64 k.m.s, vi, vh, vs, .int .i64 k.m.z]) k.m) := O0_4.out.turns ht (fun j e e' => (D0.out j e).2.2.2.2.2 e')
 have O6_5 : Hid (OwnD w5 A6 u6 ((intsD k.d).mark (markNo k.m))) := O6_4.out.turns ht (fun j e e' => (D6.out j e).2.2.2.2 e')
 have O7_5 : Hid (OwnD w5 A7 u7 ((partsD k.p).mark (mk6 k))) := O7_4.out.turns ht (fun j e e' => (D7.out j e).2.2.2 e')
 have O12_5 : Hid (OwnD w5 A12 u12 ((evsD k.s).mark (mk7 k))) := O12_4.out.turns ht (fun j e e' => (D12.out j e).2 e')
 have O13_5 : Hid (OwnD w5 A13 u13 ((emsD k.x).mark (mk12 k))) := hr
 clear hr ht HP4 HT4 O0_4 O6_4 O7_4 O12_4 O13_4
 rw [show mk12 k + (((emsD k.x)).cnt : Int) = markKn k from rfl]
 go_wp2
 go_ret
 exact ⟨rfl, ⟨A0, A6, A7, A12, A13, _, _, _, _, _, _, _, _, _, rfl, O0_5.out, O6_5.out, O7_5.out, O12_5.out, O13_5.out, fun j e => (D0.out j e).1, fun j e => (D6.out j e).1, fun j e => (D7.out j e).1, fun j e => (D12.out j e).1, D13.out⟩, HT5.out⟩
set_option maxRecDepth 100000 in
set_option maxHeartbeats 8000000 in
theorem heldKernel_any {F : Nat → Prop} {x : Value} {k : Kn} {w : World} (hs : TinyK k) (h : HeldKn F w x k) :
  Calls Tryz.prog 16 #[x, .int .i64 1] w fun e w' => e = .returned (.int .i64 (markKn k)) ∧ Below w.heap.size w w' := by
 obtain ⟨A0, A6, A7, A12, A13, vi, vh, vs, u6, u7, a8, c8, u12, u13, rfl, hm, h6, h7, h12, h13, _⟩ := h
 have HS : Hid (TinyK k) := hs
 obtain ⟨hz0, hz1, hz2, hz3, hz4, hz5⟩ := tiny_marks hs
 obtain ⟨W0, hW0⟩ : ∃ W0, w.alloc (.cells #[.int .i64 k.m.n, .int .i64 k.m.s, vi, vh, vs, .int .i64 k.m.z, u6, u7, .slice a8 0 c8, .int .i64 k.t, .int .i64 k.q, .bool k.f, u12, u13] 36) = W0 := ⟨_, rfl⟩
 have HB0 : Hid (Below w.heap.size w W0) := by rw [← hW0]; exact (Below.refl _ w).alloc (Nat.le_refl _) _
 have HP0 : Hid (Bk W0 w.heap.size 36 #[.int .i64 k.m.n, .int .i64 k.m.s, vi, vh, vs, .int .i64 k.m.z, u6, u7, .slice a8 0 c8, .int .i64 k.t, .int .i64 k.q, .bool k.f, u12, u13]) := by rw [← hW0]; exact Bk.new w _ _
 have HW : Hid (w.alloc (.cells #[.int .i64 k.m.n, .int .i64 k.m.s, vi, vh, vs, .int .i64 k.m.z, u6, u7, .slice a8 0 c8, .int .i64 k.t, .int .i64 k.q, .bool k.f, u12, u13] 36) = W0) := hW0
 have O0 : Hid (HeldM A0 w (.agg #[.int .i64 k.m.n, .int .i64 k.m.s, vi, vh, vs, .int .i64 k.m.z]) k.m) := hm
 have O6 : Hid (OwnD w A6 u6 ((intsD k.d).mark (markNo k.m))) := h6
 have O7 : Hid (OwnD w A7 u7 ((partsD k.p).mark (mk6 k))) := h7
 have O12 : Hid (OwnD w A12 u12 ((evsD k.s).mark (mk7 k))) := h12
 have O13 : Hid (OwnD w A13 u13 ((emsD k.x).mark (mk12 k))) := h13
 have n0 : ¬ (markNo k.m < 0) := by omega
 have n1 : ¬ (mk6 k < 0) := by omega
 have n2 : ¬ (mk7 k < 0) := by omega
 have n4 : ¬ (mk12 k < 0) := by omega
 have n5 : ¬ (markKn k < 0) := by omega
 clear hs hW0 hm h6 h7 h12 h13
 go_enter Tryz.func16, Tryz.ntmps16
 have p0 := HP0.out.cell (i := 0) rfl
 have p1 := HP0.out.cell (i := 1) rfl
 have p2 := HP0.out.cell (i := 2) rfl
 have p3 := HP0.out.cell (i := 3) rfl
 have p4 := HP0.out.cell (i := 4) rfl
 have p5 := HP0.out.cell (i := 5) rfl
 go_wp2_with fail
 rw [HW.out]
 clear HW p0 p1 p2 p3 p4 p5
 refine (heldModel_any HS.out.m (O0.out.below HB0.out)).mono ?_
 rintro e w1 ⟨rfl, hb⟩
 have HP1 : Hid (Bk w1 w.heap.size 36 #[.int .i64 k.m.n, .int .i64 k.m.s, vi, vh, vs, .int .i64 k.m.z, u6, u7, .slice a8 0 c8, .int .i64 k.t, .int .i64 k.q, .bool k.f, u12, u13]) := HP0.out.below hb
 have HB1 : Hid (Below w.heap.size w w1) := HB0.out.trans (hb.mono HB0.out.size)
 clear hb HP0 HB0
 have p6 := HP1.out.cell (i := 6) rfl
 go_wp2_with fail
 clear p6
 refine (held_ints (F := A6) (l := k.d) (markNo k.m) (by have := HS.out.d; omega) (by omega) (by omega) (O6.out.under HB1.out)).mono ?_
 rintro e w2 ⟨rfl, hb⟩
 have HP2 : Hid (Bk w2 w.heap.size 36 #[.int .i64 k.m.n, .int .i64 k.m.s, vi, vh, vs, .int .i64 k.m.z, u6, u7, .slice a8 0 c8, .int .i64 k.t, .int .i64 k.q, .bool k.f, u12, u13]) := HP1.out.below hb
 have HB2 : Hid (Below w.heap.size w w2) := HB1.out.trans (hb.mono HB1.out.size)
 clear hb HP1 HB1
 rw [show markNo k.m + (((intsD k.d)).cnt : Int) = mk6 k from rfl]
 have p7 := HP2.out.cell (i := 7) rfl
 go_wp2_with fail
 clear p7
 refine (held_parts (F := A7) (l := k.p) (mk6 k) (by have := HS.out.p; omega) (by omega) (by have h9 : mk6 k + ((partsD k.p).cnt : Int) = mk7 k := rfl; omega) (O7.out.under HB2.out)).mono ?_
 rintro e w3 ⟨rfl, hb⟩
 have HP3 : Hid (Bk w3 w.heap.size 36 #[.int .i64 k.m.n, .int .i64 k.m.s, vi, vh, vs, .int .i64 k.m.z, u6, u7, .slice a8 0 c8, .int .i64 k.t, .int .i64 k.q, .bool k.f, u12, u13]) := HP2.out.below hb
 have HB3 : Hid (Below w.heap.size w w3) := HB2.out.trans (hb.mono HB2.out.size)
 clear hb HP2 HB2
 rw [show mk6 k + (((partsD k.p)).cnt : Int) = mk7 k from rfl]
 have p8 := HP3.out.cell (i := 8) rfl
 go_wp2_with fail
 clear p8
 refine (heldMl_nil _ _ (mk7 k) w3).mono ?_
 rintro e w9 ⟨rfl, hw⟩
 have hw' := hw.symm
 clear hw
 subst hw'
 have p12 := HP3.out.cell (i := 12) rfl
 go_wp2_with fail
 clear p12
 refine (held_evs (F := A12) (l := k.s) (mk7 k) (by have := HS.out.s; omega) (by omega) (by omega) (O12.out.under HB3.out)).mono ?_
 rintro e w4 ⟨rfl, hb⟩
 have HP4 : Hid (Bk w4 w.heap.size 36 #[.int .i64 k.m.n, .int .i64 k.m.s, vi, vh, vs, .int .i64 k.m.z, u6, u7, .slice a8 0 c8, .int .i64 k.t, .int .i64 k.q, .bool k.f, u12, u13]) := HP3.out.below hb
 have HB4 : Hid (Below w.heap.size w w4) := HB3.out.trans (hb.mono HB3.out.size)
 clear hb HP3 HB3
 rw [show mk7 k + (((evsD k.s)).cnt : Int) = mk12 k from rfl]
 have p13 := HP4.out.cell (i := 13) rfl
 go_wp2_with fail
 clear p13
 refine (held_ems (F := A13) (l := k.x) (mk12 k) (by have := HS.out.x; omega) (by omega) (by omega) (O13.out.under HB4.out)).mono ?_
 rintro e w5 ⟨rfl, hb⟩
 have HP5 : Hid (Bk w5 w.heap.size 36 #[.int .i64 k.m.n, .int .i64 k.m.s, vi, vh, vs, .int .i64 k.m.z, u6, u7, .slice a8 0 c8, .int .i64 k.t, .int .i64 k.q, .bool k.f, u12, u13]) := HP4.out.below hb
 have HB5 : Hid (Below w.heap.size w w5) := HB4.out.trans (hb.mono HB4.out.size)
 clear hb HP4 HB4
 rw [show mk12 k + (((emsD k.x)).cnt : Int) = markKn k from rfl]
 go_wp2
 go_ret
 exact ⟨rfl, HB5.out⟩
end Go.Proofs.YthfhibnnkpbeiaaGreat

/- eqPartS: two rows alike. -/
namespace Go.Proofs.YthfhibnnkpbeiaaGreat
open Go.RowKit
set_option maxHeartbeats 8000000 in
theorem eq_parts (x y : Value) (l : List Pa) (w : World) (hl : (partsD l).wt ≤ 1048576) (hx : IsD w x (partsD l)) (hy : IsD w y (partsD l)) :
  Calls Tryz.prog 36 #[x, y] w fun e w' => e = .returned (.bool true) ∧ Below w.heap.size w w' := by
 obtain ⟨a, cap, rfl, h1, h2, h⟩ := IsD.parts (c := 7) (n := l.length) hx
 obtain ⟨a', cap', rfl, h1', h2', h'⟩ := IsD.parts (c := 7) (n := l.length) hy
 have HS : Hid ((partsD l).wt ≤ 1048576) := hl
 have hl2 : l.length ≤ 1048576 := by rw [partsD_wt] at hl; omega
 clear h1 h2 h1' h2' hx hy hl
 go_enter Tryz.func36, Tryz.ntmps36
 go_wp2
 go_loopw [5] (fun i wr => ∃ k : Nat, k ≤ l.length ∧ i = .int .i64 k ∧ Below w.heap.size w wr) (fun i _ => l.length - (intOf i).toNat)
 case atStart => exact ⟨0, Nat.zero_le _, rfl, Below.refl _ _⟩
 case round =>
  obtain ⟨k, hk, rfl, hB⟩ := hrel
  have HB : Hid (Below w.heap.size w wr) := hB
  by_cases hlt : k < l.length
  ·obtain ⟨b, off, rfl, hb, hc⟩ := h.resolve_left (by omega)
   obtain ⟨b', off', rfl, hb', hc'⟩ := h'.resolve_left (by omega)
   obtain ⟨u1, u4, u5, u6, f0, f1, f2, f3, f4, f5, f6, d1, d4, d5, d6⟩ := partsD_in (fun j hj => by
    obtain ⟨u, hu, hd⟩ := hc j hj
    exact ⟨u, (hB.cell (p := ⟨b, off + j, none⟩) hb).trans hu, hd.under hB⟩) hlt
   obtain ⟨v1, v4, v5, v6, e0, e1, e2, e3, e4, e5, e6, g1, g4, g5, g6⟩ := partsD_in (fun j hj => by
    obtain ⟨u, hu, hd⟩ := hc' j hj
    exact ⟨u, (hB.cell (p := ⟨b', off' + j, none⟩) hb').trans hu, hd.under hB⟩) hlt
   have HD : Hid (IsPart wr.drew (.agg #[.int .i64 (paAt l k).n, u1, .int .i64 (paAt l k).st.q, .int .i64 (paAt l k).st.d, u4, u5, u6]) (paAt l k)) := IsPart.under (w := wr) ⟨u1, u4, u5, u6, rfl, d1, d4, d5, d6⟩ (Below.refl _ wr).drew
   have HG : Hid (IsPart wr.drew (.agg #[.int .i64 (paAt l k).n, v1, .int .i64 (paAt l k).st.q, .int .i64 (paAt l k).st.d, v4, v5, v6]) (paAt l k)) := IsPart.under (w := wr) ⟨v1, v4, v5, v6, rfl, g1, g4, g5, g6⟩ (Below.refl _ wr).drew
   have HW : Hid ((paAt l k).wt ≤ 1048576) := Nat.le_trans (Pa.wt_le hlt) HS.out
   have hbr : b < wr.heap.size := Nat.lt_of_lt_of_le hb hB.size
   have hbr' : b' < wr.heap.size := Nat.lt_of_lt_of_le hb' hB.size
   clear hB hc hc' h h' d1 d4 d5 d6 g1 g4 g5 g6
   go_wp2_with fail
   go_region_held3 (fun W => W.cell? ⟨b, off + k * 7, none⟩ = some (.int .i64 (paAt l k).n) ∧ W.cell? ⟨b, off + k * 7 + 1, none⟩ = some (u1) ∧ W.cell? ⟨b, off + k * 7 + 2, none⟩ = some (.int .i64 (paAt l k).st.q) ∧ W.cell? ⟨b, off + k * 7 + 3, none⟩ = some (.int .i64 (paAt l k).st.d) ∧ W.cell? ⟨b, off + k * 7 + 4, none⟩ = some (u4) ∧ W.cell? ⟨b, off + k * 7 + 5, none⟩ = some (u5) ∧ W.cell? ⟨b, off + k * 7 + 6, none⟩ = some (u6) ∧ W.cell? ⟨b', off' + k * 7, none⟩ = some (.int .i64 (paAt l k).n) ∧ W.cell? ⟨b', off' + k * 7 + 1, none⟩ = some (v1) ∧ W.cell? ⟨b', off' + k * 7 + 2, none⟩ = some (.int .i64 (paAt l k).st.q) ∧ W.cell? ⟨b', off' + k * 7 + 3, none⟩ = some (.int .i64 (paAt l k).st.d) ∧ W.cell? ⟨b', off' + k * 7 + 4, none⟩ = some (v4) ∧ W.cell? ⟨b', off' + k * 7 + 5, none⟩ = some (v5) ∧ W.cell? ⟨b', off' + k * 7 + 6, none⟩ = some (v6)) ((repeat' apply And.intro) <;> first | (go_keep; done) | (rw [hcA _ _ (by first | omega | (simp; omega) | simp [*])]; simp [*]; done))
    (first | (go_at_call 83; refine (eqPart_same _ _ (paAt l k) _ HW.out HD.out HG.out).mono ?_; rintro e w2 ⟨rfl, hb2⟩; obtain ⟨hcA, hfA⟩ := bcell hb2))
   clear hcA hfA
   go_wp2
   go_roundw
   case rel => exact ⟨k + 1, by omega, by go_num, HB.out.drew.trans (hb2.mono (by have := HB.out.size; simpa using this))⟩
   case measure => simp [intOf]; omega
  ·clear hB h h'
   go_wp2
   go_ret
   exact ⟨rfl, HB.out⟩
end Go.Proofs.YthfhibnnkpbeiaaGreat

