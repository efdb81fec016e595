/- At every list of events the program's HeapPop answers as the specification's, writes into no argument and keeps nothing of one, its answer owns its memory, behind another call too; the arguments read behind the call as they read before; no condition. -/
import Derived.Test.YthklekjglocbgaaFrame
import Derived.Test.YthklekjglocbgaaPopX
import Derived.Test.YthklekjglocbgaaEqs2
import Derived.Test.YthklekjglocbgaaEqs
import Derived.Test.YthklekjglocbgaaOpenS
namespace Go.Proofs.Ythklekjglocbgaa.LawHeapPop
open Go.ChangeShapes Go.WideShapes Go.ChangeAt Go.RowKit Go.Proofs.Ythklekjglocbgaa

set_option maxRecDepth 100000 in
set_option maxHeartbeats 8000000 in
theorem walk (x : Value) (l : List Ev) (w : World) (hx : IsEvs w x l) :
    Calls Try.prog 5 #[x] w fun e w' => e = .returned (.bool true) ∧ Below w.heap.size w w' := by
  have HX : Hid (LowEvs w.heap.size w x l) := hx.low
  obtain ⟨a, cap, rfl, h1, h2, _⟩ := hx
  by_cases hl : l.length ≤ 1048576
  · have hlt : ¬ ((1048576 : Int) - (l.length : Int) < 0) := by omega
    obtain ⟨l', f, bb, hl', hsp, him⟩ := pop_both l hl
    have HSP : Hid (∀ (w : World) (g : Nat), RowTo w g l.length l l.length → Calls Try.prog 19 #[.slice (some ⟨g, 0, none⟩) l.length l.length] w fun e w' => Answers3 w.heap.size l' f bb e w' ∧ Below w.heap.size w w') := hsp
    have HIM : Hid (∀ (w : World) (g : Nat), RowTo w g l.length l l.length → Calls Try.prog 20 #[.slice (some ⟨g, 0, none⟩) l.length l.length] w fun e w' => Answers3 w.heap.size l' f bb e w' ∧ Below w.heap.size w w') := him
    have hk0 : (0 : Int) ≤ 7 * (l.length : Int) + 1 := by omega
    clear h1 h2 hsp him
    go_enter Try.func5, Try.ntmps5
    go_wp2_with fail
    refine (sz_small a l.length cap _ hl).mono ?_
    rintro e w' ⟨rfl, hw⟩
    have hw' := hw.symm
    clear hw
    subst hw'
    go_wp2_with fail
    refine (toEventS_any _ l _ hl HX.out.isEvs).mono ?_
    rintro e w1 ⟨rfl, hb1, hr1⟩
    have HR1 : Hid (RowTo w1 w.heap.size l.length l l.length) := hr1
    have HB_w1 : Hid (Below w.heap.size w w1) := hb1
    clear hr1 hb1
    go_wp2_with fail
    refine (HSP.out _ _ HR1.out).mono ?_
    rintro e w2 ⟨⟨xs, rfl, hxs⟩, hb2⟩
    have HB_w2 : Hid (Below w.heap.size w w2) := HB_w1.out.trans (hb2.mono HB_w1.out.size)
    have HS_w2 : Hid (LowEvs w2.heap.size w2 xs l') := hxs.isEvs.low
    have hz_w2 : w.heap.size ≤ w2.heap.size := HB_w2.out.size
    clear hxs hb2 HR1 HB_w1 HSP
    have hbA : Below w2.heap.size w2 (w2.alloc (.cells #[.int .i64 f.t, .int .i64 f.s, .int .i64 f.q, .int .i64 f.d, .int .i64 f.k, .int .i64 f.v, .int .i64 f.g] 33)) := (Below.refl _ _).alloc (Nat.le_refl _) _
    have hnA : Ev.In (w2.alloc (.cells #[.int .i64 f.t, .int .i64 f.s, .int .i64 f.q, .int .i64 f.d, .int .i64 f.k, .int .i64 f.v, .int .i64 f.g] 33)) w2.heap.size 0 f := newE w2 f
    have hsA : w2.heap.size < (w2.alloc (.cells #[.int .i64 f.t, .int .i64 f.s, .int .i64 f.q, .int .i64 f.d, .int .i64 f.k, .int .i64 f.v, .int .i64 f.g] 33)).heap.size := by simp
    have HbA : Hid (Below w2.heap.size w2 (w2.alloc (.cells #[.int .i64 f.t, .int .i64 f.s, .int .i64 f.q, .int .i64 f.d, .int .i64 f.k, .int .i64 f.v, .int .i64 f.g] 33))) := hbA
    have HnA : Hid (Ev.In (w2.alloc (.cells #[.int .i64 f.t, .int .i64 f.s, .int .i64 f.q, .int .i64 f.d, .int .i64 f.k, .int .i64 f.v, .int .i64 f.g] 33)) w2.heap.size 0 f) := hnA
    clear hbA hnA
    go_wp2_with fail
    generalize w2.alloc (.cells #[.int .i64 f.t, .int .i64 f.s, .int .i64 f.q, .int .i64 f.d, .int .i64 f.k, .int .i64 f.v, .int .i64 f.g] 33) = v2 at *
    have HFW_v2 : Hid (Ev.In v2 w2.heap.size 0 f) := HnA.out
    have hz_v2 : w2.heap.size ≤ v2.heap.size := HbA.out.size
    have HB_v2 : Hid (Below w.heap.size w v2) := HB_w2.out.trans (HbA.out.mono HB_w2.out.size)
    have HS_v2 : Hid (LowEvs w2.heap.size v2 xs l') := HS_w2.out.below (HbA.out.mono (by omega))
    clear HB_w2 HS_w2 HbA HnA
    have HXc : Hid (LowEvs w.heap.size v2 (.slice a l.length cap) l) := HX.out.below HB_v2.out
    refine (toEventS_any _ l _ hl HXc.out.isEvs).mono ?_
    rintro e w3 ⟨rfl, hb3, hr3⟩
    have HR_w3 : Hid (RowTo w3 v2.heap.size l.length l l.length) := hr3
    have hx3 : v2.heap.size < w3.heap.size := hr3.1
    have hz_w3 : v2.heap.size ≤ w3.heap.size := hb3.size
    have HB_w3 : Hid (Below w.heap.size w w3) := HB_v2.out.trans (hb3.mono HB_v2.out.size)
    have HS_w3 : Hid (LowEvs w2.heap.size w3 xs l') := HS_v2.out.below (hb3.mono (by omega))
    have HFW_w3 : Hid (Ev.In w3 w2.heap.size 0 f) := HFW_v2.out.below hb3 (by omega)
    clear HB_v2 HS_v2 HFW_v2 HXc hr3 hb3
    go_wp2_with fail
    refine (HIM.out _ _ HR_w3.out).mono ?_
    rintro e w4 ⟨⟨xg, rfl, hxg⟩, hb4⟩
    have HG_w4 : Hid (OwnEvs w3.heap.size w4 xg l') := hxg
    have hz_w4 : w3.heap.size ≤ w4.heap.size := hb4.size
    have HB_w4 : Hid (Below w.heap.size w w4) := HB_w3.out.trans (hb4.mono HB_w3.out.size)
    have HS_w4 : Hid (LowEvs w2.heap.size w4 xs l') := HS_w3.out.below (hb4.mono (by omega))
    have HFW_w4 : Hid (Ev.In w4 w2.heap.size 0 f) := HFW_w3.out.below hb4 (by omega)
    have HR_w4 : Hid (RowTo w4 v2.heap.size l.length l l.length) := HR_w3.out.below hb4 (by omega)
    clear HB_w3 HS_w3 HFW_w3 HR_w3 hxg hb4
    have hbA : Below w4.heap.size w4 (w4.alloc (.cells #[.int .i64 f.t, .int .i64 f.s, .int .i64 f.q, .int .i64 f.d, .int .i64 f.k, .int .i64 f.v, .int .i64 f.g] 33)) := (Below.refl _ _).alloc (Nat.le_refl _) _
    have hnA : Ev.In (w4.alloc (.cells #[.int .i64 f.t, .int .i64 f.s, .int .i64 f.q, .int .i64 f.d, .int .i64 f.k, .int .i64 f.v, .int .i64 f.g] 33)) w4.heap.size 0 f := newE w4 f
    have hsA : w4.heap.size < (w4.alloc (.cells #[.int .i64 f.t, .int .i64 f.s, .int .i64 f.q, .int .i64 f.d, .int .i64 f.k, .int .i64 f.v, .int .i64 f.g] 33)).heap.size := by simp
    have HbA : Hid (Below w4.heap.size w4 (w4.alloc (.cells #[.int .i64 f.t, .int .i64 f.s, .int .i64 f.q, .int .i64 f.d, .int .i64 f.k, .int .i64 f.v, .int .i64 f.g] 33))) := hbA
    have HnA : Hid (Ev.In (w4.alloc (.cells #[.int .i64 f.t, .int .i64 f.s, .int .i64 f.q, .int .i64 f.d, .int .i64 f.k, .int .i64 f.v, .int .i64 f.g] 33)) w4.heap.size 0 f) := hnA
    clear hbA hnA
    go_wp2_with fail
    generalize w4.alloc (.cells #[.int .i64 f.t, .int .i64 f.s, .int .i64 f.q, .int .i64 f.d, .int .i64 f.k, .int .i64 f.v, .int .i64 f.g] 33) = v4 at *
    have HFG_v4 : Hid (Ev.In v4 w4.heap.size 0 f) := HnA.out
    have hz_v4 : w4.heap.size ≤ v4.heap.size := HbA.out.size
    have HB_v4 : Hid (Below w.heap.size w v4) := HB_w4.out.trans (HbA.out.mono HB_w4.out.size)
    have HS_v4 : Hid (LowEvs w2.heap.size v4 xs l') := HS_w4.out.below (HbA.out.mono (by omega))
    have HFW_v4 : Hid (Ev.In v4 w2.heap.size 0 f) := HFW_w4.out.below HbA.out (by omega)
    have HR_v4 : Hid (RowTo v4 v2.heap.size l.length l l.length) := HR_w4.out.below HbA.out (by omega)
    have HG_v4 : Hid (OwnEvs w3.heap.size v4 xg l') := HG_w4.out.below HbA.out
    clear HB_w4 HS_w4 HFW_w4 HR_w4 HG_w4 HbA HnA
    refine (eqS_same' _ _ l' _ hl' HG_v4.out.isEvs HS_v4.out.isEvs).mono ?_
    rintro e w5 ⟨rfl, hbw5⟩
    have hz_w5 : v4.heap.size ≤ w5.heap.size := hbw5.size
    have HB_w5 : Hid (Below w.heap.size w w5) := HB_v4.out.trans (hbw5.mono HB_v4.out.size)
    have HS_w5 : Hid (LowEvs w2.heap.size w5 xs l') := HS_v4.out.below (hbw5.mono (by omega))
    have HFW_w5 : Hid (Ev.In w5 w2.heap.size 0 f) := HFW_v4.out.below hbw5 (by omega)
    have HR_w5 : Hid (RowTo w5 v2.heap.size l.length l l.length) := HR_v4.out.below hbw5 (by omega)
    have HG_w5 : Hid (OwnEvs w3.heap.size w5 xg l') := HG_v4.out.below hbw5
    have HFG_w5 : Hid (Ev.In w5 w4.heap.size 0 f) := HFG_v4.out.below hbw5 (by omega)
    clear HB_v4 HS_v4 HFW_v4 HR_v4 HG_v4 HFG_v4 hbw5
    obtain ⟨p0, p1, p2, p3, p4, p5, p6⟩ := HFG_w5.out.lits
    obtain ⟨q0, q1, q2, q3, q4, q5, q6⟩ := HFW_w5.out.lits
    go_wp2_with fail
    refine (eqEvent_same f.t f.s f.q f.d f.k f.v f.g _).mono ?_
    rintro e v5 ⟨rfl, hbv5⟩
    clear p0 p1 p2 p3 p4 p5 p6 q0 q1 q2 q3 q4 q5 q6
    have hz_v5 : w5.heap.size ≤ v5.heap.size := hbv5.size
    have HB_v5 : Hid (Below w.heap.size w v5) := HB_w5.out.trans (hbv5.mono HB_w5.out.size)
    have HS_v5 : Hid (LowEvs w2.heap.size v5 xs l') := HS_w5.out.below (hbv5.mono (by omega))
    have HFW_v5 : Hid (Ev.In v5 w2.heap.size 0 f) := HFW_w5.out.below hbv5 (by omega)
    have HR_v5 : Hid (RowTo v5 v2.heap.size l.length l l.length) := HR_w5.out.below hbv5 (by omega)
    have HG_v5 : Hid (OwnEvs w3.heap.size v5 xg l') := HG_w5.out.below hbv5
    have HFG_v5 : Hid (Ev.In v5 w4.heap.size 0 f) := HFG_w5.out.below hbv5 (by omega)
    clear HB_w5 HS_w5 HFW_w5 HR_w5 HG_w5 HFG_w5 hbv5
    go_wp2_with fail
    have HXc : Hid (LowEvs w.heap.size v5 (.slice a l.length cap) l) := HX.out.below HB_v5.out
    refine (toEventS_any _ l _ hl HXc.out.isEvs).mono ?_
    rintro e w6 ⟨rfl, hb6, hr6⟩
    have HT_w6 : Hid (IsEvs w6 (.slice (some ⟨v5.heap.size, 0, none⟩) l.length l.length) l) := hr6.isEvs hl
    have hz_w6 : v5.heap.size ≤ w6.heap.size := hb6.size
    have HB_w6 : Hid (Below w.heap.size w w6) := HB_v5.out.trans (hb6.mono HB_v5.out.size)
    have HS_w6 : Hid (LowEvs w2.heap.size w6 xs l') := HS_v5.out.below (hb6.mono (by omega))
    have HFW_w6 : Hid (Ev.In w6 w2.heap.size 0 f) := HFW_v5.out.below hb6 (by omega)
    have HR_w6 : Hid (RowTo w6 v2.heap.size l.length l l.length) := HR_v5.out.below hb6 (by omega)
    have HG_w6 : Hid (OwnEvs w3.heap.size w6 xg l') := HG_v5.out.below hb6
    have HFG_w6 : Hid (Ev.In w6 w4.heap.size 0 f) := HFG_v5.out.below hb6 (by omega)
    clear HB_v5 HS_v5 HFW_v5 HR_v5 HG_v5 HFG_v5 HXc hr6 hb6
    go_wp2_with fail
    refine (eqS_same _ _ l _ hl (HR_w6.out.isEvs hl) HT_w6.out).mono ?_
    rintro e w7 ⟨rfl, hb7⟩
    have hz_w7 : w6.heap.size ≤ w7.heap.size := hb7.size
    have HB_w7 : Hid (Below w.heap.size w w7) := HB_w6.out.trans (hb7.mono HB_w6.out.size)
    have HS_w7 : Hid (LowEvs w2.heap.size w7 xs l') := HS_w6.out.below (hb7.mono (by omega))
    have HFW_w7 : Hid (Ev.In w7 w2.heap.size 0 f) := HFW_w6.out.below hb7 (by omega)
    have HR_w7 : Hid (RowTo w7 v2.heap.size l.length l l.length) := HR_w6.out.below hb7 (by omega)
    have HG_w7 : Hid (OwnEvs w3.heap.size w7 xg l') := HG_w6.out.below hb7
    have HFG_w7 : Hid (Ev.In w7 w4.heap.size 0 f) := HFG_w6.out.below hb7 (by omega)
    clear HB_w6 HS_w6 HFW_w6 HR_w6 HG_w6 HFG_w6 HT_w6 hb7
    go_wp2_with fail
    refine (mark_any v2.heap.size l.length l.length l _ (by omega) ⟨HR_w7.out.1, HR_w7.out.2.1, fun i hi => by omega⟩).mono ?_
    rintro e w8 ⟨rfl, _, hg8⟩
    have hz_w8 : w7.heap.size ≤ w8.heap.size := hg8.size
    have hbx8 : Below v2.heap.size w7 w8 := (Below.refl _ w7).grown hg8 (by omega) (fun k e => by cases e; exact Nat.le_refl _)
    have HB_w8 : Hid (Below w.heap.size w w8) := HB_w7.out.trans (hbx8.mono (by omega))
    have HS_w8 : Hid (LowEvs w2.heap.size w8 xs l') := HS_w7.out.below (hbx8.mono (by omega))
    have HFW_w8 : Hid (Ev.In w8 w2.heap.size 0 f) := HFW_w7.out.below hbx8 (by omega)
    have HG_w8 : Hid (OwnEvs w3.heap.size w8 xg l') := HG_w7.out.other hx3 hg8
    have hblk8 : w8.heap[w4.heap.size]? = w7.heap[w4.heap.size]? := hg8.block _ (by omega) (by intro e; have := Option.some.inj e; omega)
    have hcl8 : ∀ o, w8.cell? ⟨w4.heap.size, o, none⟩ = w7.cell? ⟨w4.heap.size, o, none⟩ := fun o => World.cell?_of_block (w := w7) hblk8
    have HFG_w8 : Hid (Ev.In w8 w4.heap.size 0 f) := ⟨(hcl8 _).trans HFG_w7.out.f0, (hcl8 _).trans HFG_w7.out.f1, (hcl8 _).trans HFG_w7.out.f2, (hcl8 _).trans HFG_w7.out.f3, (hcl8 _).trans HFG_w7.out.f4, (hcl8 _).trans HFG_w7.out.f5, (hcl8 _).trans HFG_w7.out.f6⟩
    clear hg8 hbx8 hblk8 hcl8 HB_w7 HS_w7 HFW_w7 HG_w7 HFG_w7 HR_w7
    go_wp2_with fail
    refine (eqS_same' _ _ l' _ hl' HG_w8.out.isEvs HS_w8.out.isEvs).mono ?_
    rintro e w9 ⟨rfl, hbw9⟩
    have hz_w9 : w8.heap.size ≤ w9.heap.size := hbw9.size
    have HB_w9 : Hid (Below w.heap.size w w9) := HB_w8.out.trans (hbw9.mono HB_w8.out.size)
    have HS_w9 : Hid (LowEvs w2.heap.size w9 xs l') := HS_w8.out.below (hbw9.mono (by omega))
    have HFW_w9 : Hid (Ev.In w9 w2.heap.size 0 f) := HFW_w8.out.below hbw9 (by omega)
    have HG_w9 : Hid (OwnEvs w3.heap.size w9 xg l') := HG_w8.out.below hbw9
    have HFG_w9 : Hid (Ev.In w9 w4.heap.size 0 f) := HFG_w8.out.below hbw9 (by omega)
    clear HB_w8 HS_w8 HFW_w8 HG_w8 HFG_w8 hbw9
    obtain ⟨p0, p1, p2, p3, p4, p5, p6⟩ := HFG_w9.out.lits
    obtain ⟨q0, q1, q2, q3, q4, q5, q6⟩ := HFW_w9.out.lits
    go_wp2_with fail
    refine (eqEvent_same f.t f.s f.q f.d f.k f.v f.g _).mono ?_
    rintro e v9 ⟨rfl, hbv9⟩
    clear p0 p1 p2 p3 p4 p5 p6 q0 q1 q2 q3 q4 q5 q6
    have hz_v9 : w9.heap.size ≤ v9.heap.size := hbv9.size
    have HB_v9 : Hid (Below w.heap.size w v9) := HB_w9.out.trans (hbv9.mono HB_w9.out.size)
    have HS_v9 : Hid (LowEvs w2.heap.size v9 xs l') := HS_w9.out.below (hbv9.mono (by omega))
    have HFW_v9 : Hid (Ev.In v9 w2.heap.size 0 f) := HFW_w9.out.below hbv9 (by omega)
    have HG_v9 : Hid (OwnEvs w3.heap.size v9 xg l') := HG_w9.out.below hbv9
    have HFG_v9 : Hid (Ev.In v9 w4.heap.size 0 f) := HFG_w9.out.below hbv9 (by omega)
    clear HB_w9 HS_w9 HFW_w9 HG_w9 HFG_w9 hbv9
    go_wp2_with fail
    refine (mark_own HG_v9.out hl').mono ?_
    rintro e w10 ⟨m, hm, rfl, hh10, ht10⟩
    have hbt : Below w3.heap.size v9 w10 := ht10.below (by omega)
    have hz_w10 : v9.heap.size ≤ w10.heap.size := hbt.size
    have hmn : ¬ (m < 0) := by omega
    have HB_w10 : Hid (Below w.heap.size w w10) := HB_v9.out.trans (hbt.mono (by omega))
    have HS_w10 : Hid (LowEvs w2.heap.size w10 xs l') := HS_v9.out.below (hbt.mono (by omega))
    have HFW_w10 : Hid (Ev.In w10 w2.heap.size 0 f) := HFW_v9.out.below hbt (by omega)
    have HHH_w10 : Hid (HeldIn w10 xg m) := hh10
    clear hh10 ht10 hbt HB_v9 HS_v9 HFW_v9 HG_v9 HFG_v9
    go_wp2_with fail
    refine (held_in HHH_w10.out).mono ?_
    rintro e w' ⟨rfl, hw⟩
    have hw' := hw.symm
    clear hw
    subst hw'
    have HXc : Hid (LowEvs w.heap.size w10 (.slice a l.length cap) l) := HX.out.below HB_w10.out
    go_wp2_with fail
    refine (toEventS_any _ l _ hl HXc.out.isEvs).mono ?_
    rintro e w11 ⟨rfl, hb11, hr11⟩
    have HR_w11 : Hid (RowTo w11 w10.heap.size l.length l l.length) := hr11
    have hx11 : w10.heap.size < w11.heap.size := hr11.1
    have hz_w11 : w10.heap.size ≤ w11.heap.size := hb11.size
    have HB_w11 : Hid (Below w.heap.size w w11) := HB_w10.out.trans (hb11.mono HB_w10.out.size)
    have HS_w11 : Hid (LowEvs w2.heap.size w11 xs l') := HS_w10.out.below (hb11.mono (by omega))
    have HFW_w11 : Hid (Ev.In w11 w2.heap.size 0 f) := HFW_w10.out.below hb11 (by omega)
    have HHH_w11 : Hid (HeldIn w11 xg m) := HHH_w10.out.below hb11
    clear HB_w10 HS_w10 HFW_w10 HHH_w10 HXc hr11 hb11
    go_wp2_with fail
    refine (HIM.out _ _ HR_w11.out).mono ?_
    rintro e w12 ⟨⟨xh, rfl, hxh⟩, hb12⟩
    have HK_w12 : Hid (OwnEvs w11.heap.size w12 xh l') := hxh
    have hz_w12 : w11.heap.size ≤ w12.heap.size := hb12.size
    have HB_w12 : Hid (Below w.heap.size w w12) := HB_w11.out.trans (hb12.mono HB_w11.out.size)
    have HS_w12 : Hid (LowEvs w2.heap.size w12 xs l') := HS_w11.out.below (hb12.mono (by omega))
    have HFW_w12 : Hid (Ev.In w12 w2.heap.size 0 f) := HFW_w11.out.below hb12 (by omega)
    have HHH_w12 : Hid (HeldIn w12 xg m) := HHH_w11.out.below hb12
    clear HB_w11 HS_w11 HFW_w11 HHH_w11 HR_w11 hxh hb12 HIM
    have hbA : Below w12.heap.size w12 (w12.alloc (.cells #[.int .i64 f.t, .int .i64 f.s, .int .i64 f.q, .int .i64 f.d, .int .i64 f.k, .int .i64 f.v, .int .i64 f.g] 33)) := (Below.refl _ _).alloc (Nat.le_refl _) _
    have hnA : Ev.In (w12.alloc (.cells #[.int .i64 f.t, .int .i64 f.s, .int .i64 f.q, .int .i64 f.d, .int .i64 f.k, .int .i64 f.v, .int .i64 f.g] 33)) w12.heap.size 0 f := newE w12 f
    have hsA : w12.heap.size < (w12.alloc (.cells #[.int .i64 f.t, .int .i64 f.s, .int .i64 f.q, .int .i64 f.d, .int .i64 f.k, .int .i64 f.v, .int .i64 f.g] 33)).heap.size := by simp
    have HbA : Hid (Below w12.heap.size w12 (w12.alloc (.cells #[.int .i64 f.t, .int .i64 f.s, .int .i64 f.q, .int .i64 f.d, .int .i64 f.k, .int .i64 f.v, .int .i64 f.g] 33))) := hbA
    have HnA : Hid (Ev.In (w12.alloc (.cells #[.int .i64 f.t, .int .i64 f.s, .int .i64 f.q, .int .i64 f.d, .int .i64 f.k, .int .i64 f.v, .int .i64 f.g] 33)) w12.heap.size 0 f) := hnA
    clear hbA hnA
    have HKA : Hid (OwnEvs w11.heap.size (w12.alloc (.cells #[.int .i64 f.t, .int .i64 f.s, .int .i64 f.q, .int .i64 f.d, .int .i64 f.k, .int .i64 f.v, .int .i64 f.g] 33)) xh l') := HK_w12.out.below HbA.out
    clear HK_w12
    go_wp2_with fail
    generalize w12.alloc (.cells #[.int .i64 f.t, .int .i64 f.s, .int .i64 f.q, .int .i64 f.d, .int .i64 f.k, .int .i64 f.v, .int .i64 f.g] 33) = v12 at *
    have HFG_v12 : Hid (Ev.In v12 w12.heap.size 0 f) := HnA.out
    have hz_v12 : w12.heap.size ≤ v12.heap.size := HbA.out.size
    have HB_v12 : Hid (Below w.heap.size w v12) := HB_w12.out.trans (HbA.out.mono HB_w12.out.size)
    have HS_v12 : Hid (LowEvs w2.heap.size v12 xs l') := HS_w12.out.below (HbA.out.mono (by omega))
    have HFW_v12 : Hid (Ev.In v12 w2.heap.size 0 f) := HFW_w12.out.below HbA.out (by omega)
    have HHH_v12 : Hid (HeldIn v12 xg m) := HHH_w12.out.below HbA.out
    clear HB_w12 HS_w12 HFW_w12 HHH_w12 HbA HnA
    refine (eqS_same' _ _ l' _ hl' HKA.out.isEvs HS_v12.out.isEvs).mono ?_
    rintro e w13 ⟨rfl, hbw13⟩
    have hz_w13 : v12.heap.size ≤ w13.heap.size := hbw13.size
    have HB_w13 : Hid (Below w.heap.size w w13) := HB_v12.out.trans (hbw13.mono HB_v12.out.size)
    have HFW_w13 : Hid (Ev.In w13 w2.heap.size 0 f) := HFW_v12.out.below hbw13 (by omega)
    have HHH_w13 : Hid (HeldIn w13 xg m) := HHH_v12.out.below hbw13
    have HFG_w13 : Hid (Ev.In w13 w12.heap.size 0 f) := HFG_v12.out.below hbw13 (by omega)
    clear HB_v12 HS_v12 HFW_v12 HHH_v12 HFG_v12 hbw13 HKA
    obtain ⟨p0, p1, p2, p3, p4, p5, p6⟩ := HFG_w13.out.lits
    obtain ⟨q0, q1, q2, q3, q4, q5, q6⟩ := HFW_w13.out.lits
    go_wp2_with fail
    refine (eqEvent_same f.t f.s f.q f.d f.k f.v f.g _).mono ?_
    rintro e v13 ⟨rfl, hbv13⟩
    clear p0 p1 p2 p3 p4 p5 p6 q0 q1 q2 q3 q4 q5 q6
    have hz_v13 : w13.heap.size ≤ v13.heap.size := hbv13.size
    have HB_v13 : Hid (Below w.heap.size w v13) := HB_w13.out.trans (hbv13.mono HB_w13.out.size)
    have HFW_v13 : Hid (Ev.In v13 w2.heap.size 0 f) := HFW_w13.out.below hbv13 (by omega)
    have HHH_v13 : Hid (HeldIn v13 xg m) := HHH_w13.out.below hbv13
    have HFG_v13 : Hid (Ev.In v13 w12.heap.size 0 f) := HFG_w13.out.below hbv13 (by omega)
    clear HB_w13 HFW_w13 HHH_w13 HFG_w13 hbv13
    go_wp2_with fail
    refine (held_in HHH_v13.out).mono ?_
    rintro e w' ⟨rfl, hw⟩
    have hw' := hw.symm
    clear hw
    subst hw'
    go_wp2
    go_ret
    exact ⟨rfl, HB_v13.out⟩
  · go_enter Try.func5, Try.ntmps5
    go_wp2_with fail
    refine (sz_big a l.length cap _ (Nat.le_trans h1 h2) hl).mono ?_
    rintro e w' ⟨rfl, hw⟩
    have hw' := hw.symm
    clear hw
    subst hw'
    go_wp2
    go_ret
    exact ⟨rfl, Below.refl _ _⟩

set_option maxRecDepth 100000 in
theorem lifted (os : Os) (started : os.Started) (H : Type) (enc : TypeId × Value → H) :
    ReturnsInHanded {} Try.checked os 5 .any (Rows.fnExactHeapPopSpec.pre6 enc Try.prog Try.f5 Rows.fnExactHeapPopRow.domain false) (Rows.fnExactHeapPopSpec.post enc Try.prog Try.f5 false true false false) := by
  refine returnsInHanded_of_change (C := Try.checked) own started (by kernel_rfl) Try.func5
    (ChangeSpec.witness6 (enc := enc) (C := Try.checked) false ⟨#[], #[.slice none 0 0], []⟩ 8 (by kernel_rfl) (by kernel_rfl) (by kernel_rfl) (by kernel_rfl)) ?_
  intro W base args ds gs before hval0 hW hcnd _
  have hval : ∀ (j : Nat) t v, Try.f5.params[j]? = some t → args[j]? = some v → Value.okWide Try.prog W .any base t v := hval0
  have hW' := hW
  obtain ⟨p, q, hA0, hV, rfl, hfz, hnd⟩ := hW
  have hA : DataW.TrodAll enc Try.prog W 0 (fun _ => true) true Try.f5.params.toList args.toList ds p := hA0
  rw [Try.params5] at hA hval
  obtain ⟨v0, vs0, d0, ds0, p0, q0, hargs, rfl, rfl, h0, r0⟩ := trodAll_cons hA
  obtain ⟨rfl, rfl, rfl⟩ := trodAll_nil r0
  obtain rfl : args = #[v0] := by cases args; simp_all
  obtain ⟨rfl, rfl⟩ := trodVars_none hV
  have k0 := h0
  have lt0 : ∀ x ∈ p0, x.block < W.heap.size := by obtain ⟨m, hm⟩ := k0; exact DataW.trod_lt m _ _ _ hm
  obtain ⟨l0, g0⟩ := open_evs (hval 0 22 v0 rfl rfl) h0
  clear hA0 hval0
  refine (walk v0 l0 W g0).mono fun e W' ⟨he, bel⟩ => ?_
  subst he
  exact ⟨_, rfl, _, _, _, [], _, [], hW', trodAll_mk1 (shut_bool Try.underlying4 _), (trodAll_cons_mk (Below.trod laidOut (by kernel_rfl) (of_decide_eq_true (by kernel_rfl)) k0 bel lt0) trodAll_mk0), rfl, bel.frame _, fun h => by cases h⟩

theorem over : Rows.fnExactHeapPopRow.holds Try.pinned (OpenSpec.ofChange Rows.fnExactHeapPopSpec) :=
  OpenClaim.holds_of_wide 5 Try.f5 rfl rfl rfl rfl rfl rfl rfl ⟨rfl, rfl, rfl, rfl, rfl⟩ rfl rfl rfl rfl rfl (by kernel_rfl) Try.func5 (by kernel_rfl)
    (of_decide_eq_true (by kernel_rfl)) (by unfold Func.isWrapper; first | (rw [if_pos (by decide +kernel)]; kernel_rfl) | (rw [if_neg (by decide +kernel)]; exact ⟨rfl, rfl⟩))
    (fun os started H enc _ => lifted os started H enc)
end Go.Proofs.Ythklekjglocbgaa.LawHeapPop
namespace Go.Proofs.Ythklekjglocbgaa
theorem heapPop_holds : Rows.FnExactHeapPopSaid := LawHeapPop.over
#print axioms heapPop_holds
end Go.Proofs.Ythklekjglocbgaa
