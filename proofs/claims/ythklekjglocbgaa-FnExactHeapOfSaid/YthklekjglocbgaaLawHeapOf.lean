/- At every list of events the program's HeapOf answers as the specification's, writes into no argument and keeps nothing of one, its answer owns its memory, behind another call too; the arguments read behind the call as they read before; no condition. -/
import Derived.Test.YthklekjglocbgaaFrame
import Derived.Test.YthklekjglocbgaaOf
import Derived.Test.YthklekjglocbgaaEqs2
import Derived.Test.YthklekjglocbgaaEqs
import Derived.Test.YthklekjglocbgaaOpenS
namespace Go.Proofs.Ythklekjglocbgaa.LawHeapOf
open Go.ChangeShapes Go.WideShapes Go.ChangeAt Go.RowKit Go.Proofs.Ythklekjglocbgaa

set_option maxHeartbeats 8000000 in
theorem walk (x : Value) (l : List Ev) (w : World) (hx : IsEvs w x l) :
    Calls Try.prog 7 #[x] w fun e w' => e = .returned (.bool true) ∧ Below w.heap.size w w' := by
  have HX : Hid (LowEvs w.heap.size w x l) := hx.low
  obtain ⟨a, cap, rfl, h1, h2, _⟩ := hx
  by_cases hl : l.length ≤ 1048576
  · have hlt : ¬ ((1048576 : Int) - (l.length : Int) < 0) := by omega
    obtain ⟨l', bb, hl', hsp, him⟩ := of_both l hl
    have HSP : Hid (∀ (w : World) (g : Nat), RowTo w g l.length l l.length → Calls Try.prog 24 #[.slice (some ⟨g, 0, none⟩) l.length l.length] w fun e w' => Answers w.heap.size l' bb e w' ∧ Below w.heap.size w w') := hsp
    have HIM : Hid (∀ (w : World) (g : Nat), RowTo w g l.length l l.length → Calls Try.prog 25 #[.slice (some ⟨g, 0, none⟩) l.length l.length] w fun e w' => Answers w.heap.size l' bb e w' ∧ Below w.heap.size w w') := him
    have hk0 : (0 : Int) ≤ 7 * (l.length : Int) + 1 := by omega
    clear h1 h2 hsp him
    go_enter Try.func7, Try.ntmps7
    go_wp2_with fail
    refine (sz_small a l.length cap _ hl).mono ?_
    rintro e w' ⟨rfl, hw⟩
    have hw' := hw.symm
    clear hw
    subst hw'
    go_wp2_with fail
    refine (toEventS_any _ l _ hl HX.out.isEvs).mono ?_
    rintro e w1 ⟨rfl, hb1, hr1⟩
    have HR1 : Hid (RowTo w1 w.heap.size l.length l l.length) := hr1
    have HB1 : Hid (Below w.heap.size w w1) := hb1
    clear hr1 hb1
    go_wp2_with fail
    refine (HSP.out _ _ HR1.out).mono ?_
    rintro e w2 ⟨⟨xs, rfl, hxs⟩, hb2⟩
    have HS2 : Hid (LowEvs w2.heap.size w2 xs l') := hxs.isEvs.low
    have HB2 : Hid (Below w.heap.size w w2) := HB1.out.trans (hb2.mono HB1.out.size)
    have HX2 : Hid (LowEvs w.heap.size w2 (.slice a l.length cap) l) := HX.out.below HB2.out
    clear hxs hb2 HR1 HB1 HSP
    go_wp2_with fail
    refine (toEventS_any _ l _ hl HX2.out.isEvs).mono ?_
    rintro e w3 ⟨rfl, hb3, hr3⟩
    have HR3 : Hid (RowTo w3 w2.heap.size l.length l l.length) := hr3
    have HB3 : Hid (Below w.heap.size w w3) := HB2.out.trans (hb3.mono HB2.out.size)
    have HS3 : Hid (LowEvs w2.heap.size w3 xs l') := HS2.out.below hb3
    have hz23 : w2.heap.size < w3.heap.size := hr3.1
    have hz02 : w.heap.size ≤ w2.heap.size := HB2.out.size
    clear hr3 hb3 HS2 HX2
    go_wp2_with fail
    refine (HIM.out _ _ HR3.out).mono ?_
    rintro e w4 ⟨⟨xg, rfl, hxg⟩, hb4⟩
    have HG4 : Hid (OwnEvs w3.heap.size w4 xg l') := hxg
    have HB4 : Hid (Below w.heap.size w w4) := HB3.out.trans (hb4.mono HB3.out.size)
    have HS4 : Hid (LowEvs w2.heap.size w4 xs l') := HS3.out.below (hb4.mono (by omega))
    have HR4 : Hid (RowTo w4 w2.heap.size l.length l l.length) := HR3.out.below hb4 hz23
    have hz34 : w3.heap.size ≤ w4.heap.size := hb4.size
    clear hxg hb4 HS3 HR3 HB3
    have hL' : l'.length ≤ 1048576 ∨ l'.length = 1048577 := by omega
    go_wp2_with fail
    refine (eqS_same' _ _ l' _ hl' HG4.out.isEvs HS4.out.isEvs).mono ?_
    rintro e w5 ⟨rfl, hb5⟩
    have HG5 : Hid (OwnEvs w3.heap.size w5 xg l') := HG4.out.below hb5
    have HB5 : Hid (Below w.heap.size w w5) := HB4.out.trans (hb5.mono HB4.out.size)
    have HS5 : Hid (LowEvs w2.heap.size w5 xs l') := HS4.out.below (hb5.mono (by omega))
    have HR5 : Hid (RowTo w5 w2.heap.size l.length l l.length) := HR4.out.below hb5 (by omega)
    have hz45 : w4.heap.size ≤ w5.heap.size := hb5.size
    have HX5 : Hid (LowEvs w.heap.size w5 (.slice a l.length cap) l) := HX.out.below HB5.out
    clear hb5 HG4 HS4 HR4 HB4 HB2
    go_wp2_with fail
    refine (toEventS_any _ l _ hl HX5.out.isEvs).mono ?_
    rintro e w6 ⟨rfl, hb6, hr6⟩
    have HT6 : Hid (IsEvs w6 (.slice (some ⟨w5.heap.size, 0, none⟩) l.length l.length) l) := hr6.isEvs hl
    have HG6 : Hid (OwnEvs w3.heap.size w6 xg l') := HG5.out.below hb6
    have HB6 : Hid (Below w.heap.size w w6) := HB5.out.trans (hb6.mono HB5.out.size)
    have HS6 : Hid (LowEvs w2.heap.size w6 xs l') := HS5.out.below (hb6.mono (by omega))
    have HR6 : Hid (RowTo w6 w2.heap.size l.length l l.length) := HR5.out.below hb6 (by omega)
    have hz56 : w5.heap.size ≤ w6.heap.size := hb6.size
    clear hb6 hr6 HG5 HS5 HR5 HB5 HX5
    go_wp2_with fail
    refine (eqS_same _ _ l _ hl (HR6.out.isEvs hl) HT6.out).mono ?_
    rintro e w7 ⟨rfl, hb7⟩
    have HG7 : Hid (OwnEvs w3.heap.size w7 xg l') := HG6.out.below hb7
    have HB7 : Hid (Below w.heap.size w w7) := HB6.out.trans (hb7.mono HB6.out.size)
    have HS7 : Hid (LowEvs w2.heap.size w7 xs l') := HS6.out.below (hb7.mono (by omega))
    have HR7 : Hid (RowTo w7 w2.heap.size l.length l l.length) := HR6.out.below hb7 (by omega)
    have hz67 : w6.heap.size ≤ w7.heap.size := hb7.size
    clear hb7 HG6 HS6 HR6 HB6 HT6
    go_wp2_with fail
    refine (mark_any w2.heap.size l.length l.length l _ (by omega) ⟨HR7.out.1, HR7.out.2.1, fun i hi => by omega⟩).mono ?_
    rintro e w8 ⟨rfl, _, hg8⟩
    have HG8 : Hid (OwnEvs w3.heap.size w8 xg l') := HG7.out.other hz23 hg8
    have HB8 : Hid (Below w.heap.size w w8) := HB7.out.grown hg8 (by omega) (fun k e => by cases e; omega)
    have HS8 : Hid (LowEvs w2.heap.size w8 xs l') := HS7.out.below ((Below.refl _ w7).grown hg8 (by omega) (fun k e => by cases e; exact Nat.le_refl _))
    have hz78 : w7.heap.size ≤ w8.heap.size := hg8.size
    clear hg8 HG7 HS7 HR7 HB7
    go_wp2_with fail
    refine (eqS_same' _ _ l' _ hl' HG8.out.isEvs HS8.out.isEvs).mono ?_
    rintro e w9 ⟨rfl, hb9⟩
    have HG9 : Hid (OwnEvs w3.heap.size w9 xg l') := HG8.out.below hb9
    have HB9 : Hid (Below w.heap.size w w9) := HB8.out.trans (hb9.mono HB8.out.size)
    have HS9 : Hid (LowEvs w2.heap.size w9 xs l') := HS8.out.below (hb9.mono (by omega))
    have hz89 : w8.heap.size ≤ w9.heap.size := hb9.size
    clear hb9 HG8 HS8 HB8
    go_wp2_with fail
    refine (mark_own HG9.out hl').mono ?_
    rintro e w10 ⟨m, hm, rfl, hh10, ht10⟩
    have HH10 : Hid (HeldIn w10 xg m) := hh10
    have hbt : Below w3.heap.size w9 w10 := ht10.below (by omega)
    have HB10 : Hid (Below w.heap.size w w10) := HB9.out.trans (hbt.mono (by omega))
    have HS10 : Hid (LowEvs w2.heap.size w10 xs l') := HS9.out.below (hbt.mono (by omega))
    have hz910 : w9.heap.size ≤ w10.heap.size := hbt.size
    have hmn : ¬ (m < 0) := by omega
    clear hh10 ht10 hbt HG9 HS9 HB9
    go_wp2_with fail
    refine (held_in HH10.out).mono ?_
    rintro e w' ⟨rfl, hw⟩
    have hw' := hw.symm
    clear hw
    subst hw'
    have HX10 : Hid (LowEvs w.heap.size w10 (.slice a l.length cap) l) := HX.out.below HB10.out
    go_wp2_with fail
    refine (toEventS_any _ l _ hl HX10.out.isEvs).mono ?_
    rintro e w11 ⟨rfl, hb11, hr11⟩
    have HR11 : Hid (RowTo w11 w10.heap.size l.length l l.length) := hr11
    have HH11 : Hid (HeldIn w11 xg m) := HH10.out.below hb11
    have HB11 : Hid (Below w.heap.size w w11) := HB10.out.trans (hb11.mono HB10.out.size)
    have HS11 : Hid (LowEvs w2.heap.size w11 xs l') := HS10.out.below (hb11.mono (by omega))
    have hz1011 : w10.heap.size ≤ w11.heap.size := hb11.size
    clear hb11 hr11 HH10 HS10 HB10 HX10
    go_wp2_with fail
    refine (HIM.out _ _ HR11.out).mono ?_
    rintro e w12 ⟨⟨xh, rfl, hxh⟩, hb12⟩
    have HK12 : Hid (IsEvs w12 xh l') := hxh.isEvs
    have HH12 : Hid (HeldIn w12 xg m) := HH11.out.below hb12
    have HB12 : Hid (Below w.heap.size w w12) := HB11.out.trans (hb12.mono HB11.out.size)
    have HS12 : Hid (LowEvs w2.heap.size w12 xs l') := HS11.out.below (hb12.mono (by omega))
    have hz1112 : w11.heap.size ≤ w12.heap.size := hb12.size
    clear hb12 hxh HH11 HS11 HB11 HIM HR11
    go_wp2_with fail
    refine (eqS_same' _ _ l' _ hl' HK12.out HS12.out.isEvs).mono ?_
    rintro e w13 ⟨rfl, hb13⟩
    have HH13 : Hid (HeldIn w13 xg m) := HH12.out.below hb13
    have HB13 : Hid (Below w.heap.size w w13) := HB12.out.trans (hb13.mono HB12.out.size)
    clear hb13 HH12 HS12 HB12 HK12
    go_wp2_with fail
    refine (held_in HH13.out).mono ?_
    rintro e w' ⟨rfl, hw⟩
    have hw' := hw.symm
    clear hw
    subst hw'
    go_wp2
    go_ret
    exact ⟨rfl, HB13.out⟩
  · go_enter Try.func7, Try.ntmps7
    go_wp2_with fail
    refine (sz_big a l.length cap _ (Nat.le_trans h1 h2) hl).mono ?_
    rintro e w' ⟨rfl, hw⟩
    have hw' := hw.symm
    clear hw
    subst hw'
    go_wp2
    go_ret
    exact ⟨rfl, Below.refl _ _⟩

set_option maxRecDepth 100000 in
theorem lifted (os : Os) (started : os.Started) (H : Type) (enc : TypeId × Value → H) :
    ReturnsInHanded {} Try.checked os 7 .any (Rows.fnExactHeapOfSpec.pre6 enc Try.prog Try.f7 Rows.fnExactHeapOfRow.domain false) (Rows.fnExactHeapOfSpec.post enc Try.prog Try.f7 false true false false) := by
  refine returnsInHanded_of_change (C := Try.checked) own started (by kernel_rfl) Try.func7
    (ChangeSpec.witness6 (enc := enc) (C := Try.checked) false ⟨#[], #[.slice none 0 0], []⟩ 8 (by kernel_rfl) (by kernel_rfl) (by kernel_rfl) (by kernel_rfl)) ?_
  intro W base args ds gs before hval0 hW hcnd _
  have hval : ∀ (j : Nat) t v, Try.f7.params[j]? = some t → args[j]? = some v → Value.okWide Try.prog W .any base t v := hval0
  have hW' := hW
  obtain ⟨p, q, hA0, hV, rfl, hfz, hnd⟩ := hW
  have hA : DataW.TrodAll enc Try.prog W 0 (fun _ => true) true Try.f7.params.toList args.toList ds p := hA0
  rw [Try.params7] at hA hval
  obtain ⟨v0, vs0, d0, ds0, p0, q0, hargs, rfl, rfl, h0, r0⟩ := trodAll_cons hA
  obtain ⟨rfl, rfl, rfl⟩ := trodAll_nil r0
  obtain rfl : args = #[v0] := by cases args; simp_all
  obtain ⟨rfl, rfl⟩ := trodVars_none hV
  have k0 := h0
  have lt0 : ∀ x ∈ p0, x.block < W.heap.size := by obtain ⟨m, hm⟩ := k0; exact DataW.trod_lt m _ _ _ hm
  obtain ⟨l0, g0⟩ := open_evs (hval 0 22 v0 rfl rfl) h0
  clear hA0 hval0
  refine (walk v0 l0 W g0).mono fun e W' ⟨he, bel⟩ => ?_
  subst he
  exact ⟨_, rfl, _, _, _, [], _, [], hW', trodAll_mk1 (shut_bool Try.underlying4 _), (trodAll_cons_mk (Below.trod laidOut (by kernel_rfl) (of_decide_eq_true (by kernel_rfl)) k0 bel lt0) trodAll_mk0), rfl, bel.frame _, fun h => by cases h⟩

theorem over : Rows.fnExactHeapOfRow.holds Try.pinned (OpenSpec.ofChange Rows.fnExactHeapOfSpec) :=
  OpenClaim.holds_of_wide 7 Try.f7 rfl rfl rfl rfl rfl rfl rfl ⟨rfl, rfl, rfl, rfl, rfl⟩ rfl rfl rfl rfl rfl (by kernel_rfl) Try.func7 (by kernel_rfl)
    (of_decide_eq_true (by kernel_rfl)) (by unfold Func.isWrapper; first | (rw [if_pos (by decide +kernel)]; kernel_rfl) | (rw [if_neg (by decide +kernel)]; exact ⟨rfl, rfl⟩))
    (fun os started H enc _ => lifted os started H enc)
end Go.Proofs.Ythklekjglocbgaa.LawHeapOf
namespace Go.Proofs.Ythklekjglocbgaa
theorem heapOf_holds : Rows.FnExactHeapOfSaid := LawHeapOf.over
#print axioms heapOf_holds
end Go.Proofs.Ythklekjglocbgaa
