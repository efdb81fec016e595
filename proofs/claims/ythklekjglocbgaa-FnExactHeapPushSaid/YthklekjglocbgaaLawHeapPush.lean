/- At every list of events and every event the program's HeapPush answers as the specification's, writes into no argument and keeps nothing of one, its answer owns its memory, behind another call too; the arguments read behind the call as they read before; no condition. -/
import Derived.Test.YthklekjglocbgaaFrame
import Derived.Test.YthklekjglocbgaaEqs2
import Derived.Test.YthklekjglocbgaaPush
import Derived.Test.YthklekjglocbgaaEqs
import Derived.Test.YthklekjglocbgaaOpenS
namespace Go.Proofs.Ythklekjglocbgaa.LawHeapPush
open Go.ChangeShapes Go.WideShapes Go.ChangeAt Go.RowKit Go.Proofs.Ythklekjglocbgaa

set_option maxRecDepth 100000 in
set_option maxHeartbeats 8000000 in
theorem walkE (x : Value) (l : List Ev) (e : Ev) (w : World) (hx : IsEvs w x l) :
    Calls Try.prog 4 #[x, .agg #[.int .i64 e.t, .int .i64 e.s, .int .i64 e.q, .int .i64 e.d, .int .i64 e.k, .int .i64 e.v, .int .i64 e.g]] w fun e w' => e = .returned (.bool true) ∧ Below w.heap.size w w' := by
  have hB0 : Below w.heap.size w (w.alloc (.cells #[.int .i64 e.t, .int .i64 e.s, .int .i64 e.q, .int .i64 e.d, .int .i64 e.k, .int .i64 e.v, .int .i64 e.g] 30)) := (Below.refl _ w).alloc (Nat.le_refl _) _
  have HE : Hid (EvAt (w.alloc (.cells #[.int .i64 e.t, .int .i64 e.s, .int .i64 e.q, .int .i64 e.d, .int .i64 e.k, .int .i64 e.v, .int .i64 e.g] 30)) w.heap.size 0 e.t e.s e.q e.d e.k e.v e.g) := EvAt.new w 30 e.t e.s e.q e.d e.k e.v e.g
  have hbz : w.heap.size < (w.alloc (.cells #[.int .i64 e.t, .int .i64 e.s, .int .i64 e.q, .int .i64 e.d, .int .i64 e.k, .int .i64 e.v, .int .i64 e.g] 30)).heap.size := by simp
  have hx0 : IsEvs (w.alloc (.cells #[.int .i64 e.t, .int .i64 e.s, .int .i64 e.q, .int .i64 e.d, .int .i64 e.k, .int .i64 e.v, .int .i64 e.g] 30)) x l := hx.below hB0
  have HX : Hid (LowEvs (w.alloc (.cells #[.int .i64 e.t, .int .i64 e.s, .int .i64 e.q, .int .i64 e.d, .int .i64 e.k, .int .i64 e.v, .int .i64 e.g] 30)).heap.size (w.alloc (.cells #[.int .i64 e.t, .int .i64 e.s, .int .i64 e.q, .int .i64 e.d, .int .i64 e.k, .int .i64 e.v, .int .i64 e.g] 30)) x l) := hx0.low
  clear hx0
  obtain ⟨a, cap, rfl, h1, h2, _⟩ := hx
  by_cases hl : l.length ≤ 1048576
  · have hlt : ¬ ((1048576 : Int) - (l.length : Int) < 0) := by omega
    obtain ⟨l', bb, hl', hsp, him⟩ := push_both l e hl
    have HSP : Hid (∀ (w : World) (g : Nat), RowTo w g l.length l l.length → Calls Try.prog 14 #[.slice (some ⟨g, 0, none⟩) l.length l.length, .agg #[.int .i64 e.t, .int .i64 e.s, .int .i64 e.q, .int .i64 e.d, .int .i64 e.k, .int .i64 e.v, .int .i64 e.g]] w fun e w' => Answers w.heap.size l' bb e w' ∧ Below w.heap.size w w') := hsp
    have HIM : Hid (∀ (w : World) (g : Nat), RowTo w g l.length l l.length → Calls Try.prog 16 #[.slice (some ⟨g, 0, none⟩) l.length l.length, .agg #[.int .i64 e.t, .int .i64 e.s, .int .i64 e.q, .int .i64 e.d, .int .i64 e.k, .int .i64 e.v, .int .i64 e.g]] w fun e w' => Answers w.heap.size l' bb e w' ∧ Below w.heap.size w w') := him
    have hk0 : (0 : Int) ≤ 7 * (l.length : Int) + 1 := by omega
    clear h1 h2 hsp him
    go_enter Try.func4, Try.ntmps4
    go_wp2_with fail
    generalize w.alloc (.cells #[.int .i64 e.t, .int .i64 e.s, .int .i64 e.q, .int .i64 e.d, .int .i64 e.k, .int .i64 e.v, .int .i64 e.g] 30) = W0 at *
    generalize hbx : w.heap.size = bx at *
    refine (sz_small a l.length cap _ hl).mono ?_
    rintro r w' ⟨rfl, hw⟩
    have hw' := hw.symm
    clear hw
    subst hw'
    obtain ⟨f0, f1, f2, f3, f4, f5, f6⟩ := HE.out.lits
    go_wp2_with fail
    go_region_held3 (fun W => bx < W.heap.size ∧ W.cell? ⟨bx, 0, none⟩ = some (.int .i64 e.t) ∧ W.cell? ⟨bx, 1, none⟩ = some (.int .i64 e.s) ∧ W.cell? ⟨bx, 2, none⟩ = some (.int .i64 e.q) ∧ W.cell? ⟨bx, 3, none⟩ = some (.int .i64 e.d) ∧ W.cell? ⟨bx, 4, none⟩ = some (.int .i64 e.k) ∧ W.cell? ⟨bx, 5, none⟩ = some (.int .i64 e.v) ∧ W.cell? ⟨bx, 6, none⟩ = some (.int .i64 e.g)) ((repeat' apply And.intro) <;> first | (go_keep; done) | (simp; omega) | omega | (rw [hcA _ _ (by first | omega | (simp; omega))]; simp [*]; done) | (rw [hcB _ _ (by first | omega | (simp; omega))]; simp [*]; done) | (rw [hcC _ _ (by first | omega | (simp; omega))]; simp [*]; done))
      (first
        | (go_at_call 11; refine (toEventS_any _ l _ hl (HX.out.below (Below.refl _ W0).drew).isEvs).mono ?_; rintro e wA ⟨rfl, hbA, hrA⟩; have HRA : Hid (RowTo wA _ l.length l l.length) := hrA; obtain ⟨hcA, hfA⟩ := bcell hbA; have hzA := hbA.size)
        | (go_at_call 15; refine (toEvent_any e.t e.s e.q e.d e.k e.v e.g _).mono ?_; rintro e wB ⟨rfl, hbB⟩; obtain ⟨hcB, hfB⟩ := bcell hbB; have hzB := hbB.size)
        | (go_at_call 14; refine (HSP.out _ _ (HRA.out.below hbB HRA.out.1)).mono ?_; rintro e wC ⟨⟨xC, rfl, hxC⟩, hbC⟩; obtain ⟨hcC, hfC⟩ := bcell hbC; have hzC := hbC.size))

    have HS2 : Hid (LowEvs wC.heap.size wC xC l') := hxC.isEvs.low
    have HB2 : Hid (Below W0.heap.size W0 wC) := (((Below.refl _ W0).drew.trans (hbA.mono (by simp))).trans (hbB.mono (by simp at hzA; omega))).trans (hbC.mono (by simp at hzA; omega))
    have HX2 : Hid (LowEvs W0.heap.size wC (.slice a l.length cap) l) := HX.out.below HB2.out
    clear hxC hbA hbB hbC hcA hcB hcC hfA hfB hfC hzA hzB hzC hrA HRA HSP f0 f1 f2 f3 f4 f5 f6
    go_wp2_with fail
    refine (toEventS_any _ l _ hl HX2.out.isEvs).mono ?_
    rintro r w3 ⟨rfl, hb3, hr3⟩
    have HR3 : Hid (RowTo w3 wC.heap.size l.length l l.length) := hr3
    have HB3 : Hid (Below W0.heap.size W0 w3) := HB2.out.trans (hb3.mono HB2.out.size)
    have HS3 : Hid (LowEvs wC.heap.size w3 xC l') := HS2.out.below hb3
    have hz23 : wC.heap.size < w3.heap.size := hr3.1
    have hz02 : W0.heap.size ≤ wC.heap.size := HB2.out.size
    have HE3 : Hid (EvAt w3 bx 0 e.t e.s e.q e.d e.k e.v e.g) := HE.out.below HB3.out hbz
    obtain ⟨f0, f1, f2, f3, f4, f5, f6⟩ := HE3.out.lits
    clear hr3 hb3 HS2 HX2
    go_wp2_with fail
    refine (toEvent_any e.t e.s e.q e.d e.k e.v e.g _).mono ?_
    rintro r w3' ⟨rfl, hb3'⟩
    have HR3' : Hid (RowTo w3' wC.heap.size l.length l l.length) := HR3.out.below hb3' hz23
    have HB3' : Hid (Below W0.heap.size W0 w3') := HB3.out.trans (hb3'.mono (by omega))
    have HS3' : Hid (LowEvs wC.heap.size w3' xC l') := HS3.out.below (hb3'.mono (by omega))
    have hz33 : w3.heap.size ≤ w3'.heap.size := hb3'.size
    clear hb3' HR3 HB3 HS3 HE3 f0 f1 f2 f3 f4 f5 f6
    go_wp2_with fail
    refine (HIM.out _ _ HR3'.out).mono ?_
    rintro r w4 ⟨⟨xg, rfl, hxg⟩, hb4⟩
    have HG4 : Hid (OwnEvs w3'.heap.size w4 xg l') := hxg
    have HB4 : Hid (Below W0.heap.size W0 w4) := HB3'.out.trans (hb4.mono HB3'.out.size)
    have HS4 : Hid (LowEvs wC.heap.size w4 xC l') := HS3'.out.below (hb4.mono (by omega))
    have HR4 : Hid (RowTo w4 wC.heap.size l.length l l.length) := HR3'.out.below hb4 (by omega)
    have hz34 : w3'.heap.size ≤ w4.heap.size := hb4.size
    clear hxg hb4 HS3' HR3' HB3'
    have hL' : l'.length ≤ 1048576 ∨ l'.length = 1048577 := by omega
    go_wp2_with fail
    refine (eqS_same' _ _ l' _ hl' HG4.out.isEvs HS4.out.isEvs).mono ?_
    rintro r w5 ⟨rfl, hb5⟩
    have HG5 : Hid (OwnEvs w3'.heap.size w5 xg l') := HG4.out.below hb5
    have HB5 : Hid (Below W0.heap.size W0 w5) := HB4.out.trans (hb5.mono HB4.out.size)
    have HS5 : Hid (LowEvs wC.heap.size w5 xC l') := HS4.out.below (hb5.mono (by omega))
    have HR5 : Hid (RowTo w5 wC.heap.size l.length l l.length) := HR4.out.below hb5 (by omega)
    have hz45 : w4.heap.size ≤ w5.heap.size := hb5.size
    have HX5 : Hid (LowEvs W0.heap.size w5 (.slice a l.length cap) l) := HX.out.below HB5.out
    clear hb5 HG4 HS4 HR4 HB4 HB2
    go_wp2_with fail
    refine (toEventS_any _ l _ hl HX5.out.isEvs).mono ?_
    rintro r w6 ⟨rfl, hb6, hr6⟩
    have HT6 : Hid (IsEvs w6 (.slice (some ⟨w5.heap.size, 0, none⟩) l.length l.length) l) := hr6.isEvs hl
    have HG6 : Hid (OwnEvs w3'.heap.size w6 xg l') := HG5.out.below hb6
    have HB6 : Hid (Below W0.heap.size W0 w6) := HB5.out.trans (hb6.mono HB5.out.size)
    have HS6 : Hid (LowEvs wC.heap.size w6 xC l') := HS5.out.below (hb6.mono (by omega))
    have HR6 : Hid (RowTo w6 wC.heap.size l.length l l.length) := HR5.out.below hb6 (by omega)
    have hz56 : w5.heap.size ≤ w6.heap.size := hb6.size
    clear hb6 hr6 HG5 HS5 HR5 HB5 HX5
    go_wp2_with fail
    refine (eqS_same _ _ l _ hl (HR6.out.isEvs hl) HT6.out).mono ?_
    rintro r w7 ⟨rfl, hb7⟩
    have HG7 : Hid (OwnEvs w3'.heap.size w7 xg l') := HG6.out.below hb7
    have HB7 : Hid (Below W0.heap.size W0 w7) := HB6.out.trans (hb7.mono HB6.out.size)
    have HS7 : Hid (LowEvs wC.heap.size w7 xC l') := HS6.out.below (hb7.mono (by omega))
    have HR7 : Hid (RowTo w7 wC.heap.size l.length l l.length) := HR6.out.below hb7 (by omega)
    have hz67 : w6.heap.size ≤ w7.heap.size := hb7.size
    clear hb7 HG6 HS6 HR6 HB6 HT6
    go_wp2_with fail
    refine (mark_any wC.heap.size l.length l.length l _ (by omega) ⟨HR7.out.1, HR7.out.2.1, fun i hi => by omega⟩).mono ?_
    rintro r w8 ⟨rfl, _, hg8⟩
    have HG8 : Hid (OwnEvs w3'.heap.size w8 xg l') := HG7.out.other (Nat.lt_of_lt_of_le hz23 hz33) hg8
    have HB8 : Hid (Below W0.heap.size W0 w8) := HB7.out.grown hg8 (by omega) (fun k e => by cases e; omega)
    have HS8 : Hid (LowEvs wC.heap.size w8 xC l') := HS7.out.below ((Below.refl _ w7).grown hg8 (by omega) (fun k e => by cases e; exact Nat.le_refl _))
    have hz78 : w7.heap.size ≤ w8.heap.size := hg8.size
    clear hg8 HG7 HS7 HR7 HB7
    go_wp2_with fail
    refine (eqS_same' _ _ l' _ hl' HG8.out.isEvs HS8.out.isEvs).mono ?_
    rintro r w9 ⟨rfl, hb9⟩
    have HG9 : Hid (OwnEvs w3'.heap.size w9 xg l') := HG8.out.below hb9
    have HB9 : Hid (Below W0.heap.size W0 w9) := HB8.out.trans (hb9.mono HB8.out.size)
    have HS9 : Hid (LowEvs wC.heap.size w9 xC l') := HS8.out.below (hb9.mono (by omega))
    have hz89 : w8.heap.size ≤ w9.heap.size := hb9.size
    clear hb9 HG8 HS8 HB8
    go_wp2_with fail
    refine (mark_own HG9.out hl').mono ?_
    rintro r w10 ⟨m, hm, rfl, hh10, ht10⟩
    have HH10 : Hid (HeldIn w10 xg m) := hh10
    have hbt : Below w3'.heap.size w9 w10 := ht10.below (by omega)
    have HB10 : Hid (Below W0.heap.size W0 w10) := HB9.out.trans (hbt.mono (by omega))
    have HS10 : Hid (LowEvs wC.heap.size w10 xC l') := HS9.out.below (hbt.mono (by omega))
    have hz910 : w9.heap.size ≤ w10.heap.size := hbt.size
    have hmn : ¬ (m < 0) := by omega
    clear hh10 ht10 hbt HG9 HS9 HB9
    go_wp2_with fail
    refine (held_in HH10.out).mono ?_
    rintro r w' ⟨rfl, hw⟩
    have hw' := hw.symm
    clear hw
    subst hw'
    have HX10 : Hid (LowEvs W0.heap.size w10 (.slice a l.length cap) l) := HX.out.below HB10.out
    have HE10 : Hid (EvAt w10 bx 0 e.t e.s e.q e.d e.k e.v e.g) := HE.out.below HB10.out hbz
    obtain ⟨f0, f1, f2, f3, f4, f5, f6⟩ := HE10.out.lits
    go_wp2_with fail
    go_region_held3 (fun W => bx < W.heap.size ∧ W.cell? ⟨bx, 0, none⟩ = some (.int .i64 e.t) ∧ W.cell? ⟨bx, 1, none⟩ = some (.int .i64 e.s) ∧ W.cell? ⟨bx, 2, none⟩ = some (.int .i64 e.q) ∧ W.cell? ⟨bx, 3, none⟩ = some (.int .i64 e.d) ∧ W.cell? ⟨bx, 4, none⟩ = some (.int .i64 e.k) ∧ W.cell? ⟨bx, 5, none⟩ = some (.int .i64 e.v) ∧ W.cell? ⟨bx, 6, none⟩ = some (.int .i64 e.g)) ((repeat' apply And.intro) <;> first | (go_keep; done) | (simp; omega) | omega | (rw [hcD _ _ (by first | omega | (simp; omega))]; simp [*]; done) | (rw [hcE _ _ (by first | omega | (simp; omega))]; simp [*]; done) | (rw [hcF _ _ (by first | omega | (simp; omega))]; simp [*]; done))
      (first
        | (go_at_call 11; refine (toEventS_any _ l _ hl (HX10.out.below (Below.refl _ w10).drew).isEvs).mono ?_; rintro e wD ⟨rfl, hbD, hrD⟩; have HRD : Hid (RowTo wD _ l.length l l.length) := hrD; obtain ⟨hcD, hfD⟩ := bcell hbD; have hzD := hbD.size)
        | (go_at_call 15; refine (toEvent_any e.t e.s e.q e.d e.k e.v e.g _).mono ?_; rintro e wE ⟨rfl, hbE⟩; obtain ⟨hcE, hfE⟩ := bcell hbE; have hzE := hbE.size)
        | (go_at_call 16; refine (HIM.out _ _ (HRD.out.below hbE HRD.out.1)).mono ?_; rintro e wF ⟨⟨xF, rfl, hxF⟩, hbF⟩; obtain ⟨hcF, hfF⟩ := bcell hbF; have hzF := hbF.size))

    have HB12 : Hid (Below w10.heap.size w10 wF) := (((Below.refl _ w10).drew.trans (hbD.mono (by simp))).trans (hbE.mono (by simp at hzD; omega))).trans (hbF.mono (by simp at hzD; omega))
    have HK12 : Hid (IsEvs wF xF l') := hxF.isEvs
    have HH12 : Hid (HeldIn wF xg m) := HH10.out.below HB12.out
    have HS12 : Hid (LowEvs wC.heap.size wF xC l') := HS10.out.below (HB12.out.mono (by omega))
    have hz1012 : w10.heap.size ≤ wF.heap.size := HB12.out.size
    clear hxF hbD hbE hbF hcD hcE hcF hfD hfE hfF hzD hzE hzF hrD HRD HIM HE10 HX10 HS10 HH10 f0 f1 f2 f3 f4 f5 f6
    go_wp2_with fail
    refine (eqS_same' _ _ l' _ hl' HK12.out HS12.out.isEvs).mono ?_
    rintro r w13 ⟨rfl, hb13⟩
    have HH13 : Hid (HeldIn w13 xg m) := HH12.out.below hb13
    have HB13 : Hid (Below W0.heap.size W0 w13) := (HB10.out.trans (HB12.out.mono (by omega))).trans (hb13.mono (by omega))
    clear hb13 HH12 HS12 HB12 HK12 HB10
    go_wp2_with fail
    refine (held_in HH13.out).mono ?_
    rintro r w' ⟨rfl, hw⟩
    have hw' := hw.symm
    clear hw
    subst hw'
    go_wp2
    go_ret
    exact ⟨rfl, by rw [hbx]; exact hB0.trans (HB13.out.mono (by omega))⟩
  · go_enter Try.func4, Try.ntmps4
    go_wp2_with fail
    refine (sz_big a l.length cap _ (Nat.le_trans h1 h2) hl).mono ?_
    rintro r w' ⟨rfl, hw⟩
    have hw' := hw.symm
    clear hw
    subst hw'
    go_wp2
    go_ret
    exact ⟨rfl, hB0⟩
theorem walk (x : Value) (l : List Ev) (t s q d k v g : Int) (w : World) (hx : IsEvs w x l) :
    Calls Try.prog 4 #[x, .agg #[.int .i64 t, .int .i64 s, .int .i64 q, .int .i64 d, .int .i64 k, .int .i64 v, .int .i64 g]] w fun e w' => e = .returned (.bool true) ∧ Below w.heap.size w w' := walkE x l ⟨t, s, q, d, k, v, g⟩ w hx

set_option maxRecDepth 100000 in
theorem lifted (os : Os) (started : os.Started) (H : Type) (enc : TypeId × Value → H) :
    ReturnsInHanded {} Try.checked os 4 .any (Rows.fnExactHeapPushSpec.pre6 enc Try.prog Try.f4 Rows.fnExactHeapPushRow.domain false) (Rows.fnExactHeapPushSpec.post enc Try.prog Try.f4 false true false false) := by
  refine returnsInHanded_of_change (C := Try.checked) own started (by kernel_rfl) Try.func4
    (ChangeSpec.witness6 (enc := enc) (C := Try.checked) false ⟨#[], #[.slice none 0 0, .agg #[.int .i64 0, .int .i64 0, .int .i64 0, .int .i64 0, .int .i64 0, .int .i64 0, .int .i64 0]], []⟩ 8 (by kernel_rfl) (by kernel_rfl) (by kernel_rfl) (by kernel_rfl)) ?_
  intro W base args ds gs before hval0 hW hcnd _
  have hval : ∀ (j : Nat) t v, Try.f4.params[j]? = some t → args[j]? = some v → Value.okWide Try.prog W .any base t v := hval0
  have hW' := hW
  obtain ⟨p, q, hA0, hV, rfl, hfz, hnd⟩ := hW
  have hA : DataW.TrodAll enc Try.prog W 0 (fun _ => true) true Try.f4.params.toList args.toList ds p := hA0
  rw [Try.params4] at hA hval
  obtain ⟨v0, vs0, d0, ds0, p0, q0, hargs, rfl, rfl, h0, r0⟩ := trodAll_cons hA
  obtain ⟨v1, vs1, d1, ds1, p1, q1, rfl, rfl, rfl, h1, r1⟩ := trodAll_cons r0
  obtain ⟨rfl, rfl, rfl⟩ := trodAll_nil r1
  obtain rfl : args = #[v0, v1] := by cases args; simp_all
  obtain ⟨rfl, rfl⟩ := trodVars_none hV
  have k0 := h0
  have lt0 : ∀ x ∈ p0, x.block < W.heap.size := by obtain ⟨m, hm⟩ := k0; exact DataW.trod_lt m _ _ _ hm
  have k1 := h1
  have lt1 : ∀ x ∈ p1, x.block < W.heap.size := by obtain ⟨m, hm⟩ := k1; exact DataW.trod_lt m _ _ _ hm
  obtain ⟨l0, g0⟩ := open_evs (hval 0 22 v0 rfl rfl) h0
  obtain ⟨x10, x11, x12, x13, x14, x15, x16, rfl, u10, u11, u12, u13, u14, u15, u16⟩ := open_ev (hval 1 30 v1 rfl rfl) h1
  clear hA0 hval0
  refine (walk v0 l0 x10 x11 x12 x13 x14 x15 x16 W g0).mono fun e W' ⟨he, bel⟩ => ?_
  subst he
  exact ⟨_, rfl, _, _, _, [], _, [], hW', trodAll_mk1 (shut_bool Try.underlying4 _), (trodAll_cons_mk (Below.trod laidOut (by kernel_rfl) (of_decide_eq_true (by kernel_rfl)) k0 bel lt0) (trodAll_cons_mk (Below.trod laidOut (by kernel_rfl) (of_decide_eq_true (by kernel_rfl)) k1 bel lt1) trodAll_mk0)), rfl, bel.frame _, fun h => by cases h⟩

theorem over : Rows.fnExactHeapPushRow.holds Try.pinned (OpenSpec.ofChange Rows.fnExactHeapPushSpec) :=
  OpenClaim.holds_of_wide 4 Try.f4 rfl rfl rfl rfl rfl rfl rfl ⟨rfl, rfl, rfl, rfl, rfl⟩ rfl rfl rfl rfl rfl (by kernel_rfl) Try.func4 (by kernel_rfl)
    (of_decide_eq_true (by kernel_rfl)) (by unfold Func.isWrapper; first | (rw [if_pos (by decide +kernel)]; kernel_rfl) | (rw [if_neg (by decide +kernel)]; exact ⟨rfl, rfl⟩))
    (fun os started H enc _ => lifted os started H enc)
end Go.Proofs.Ythklekjglocbgaa.LawHeapPush
namespace Go.Proofs.Ythklekjglocbgaa
theorem heapPush_holds : Rows.FnExactHeapPushSaid := LawHeapPush.over
#print axioms heapPush_holds
end Go.Proofs.Ythklekjglocbgaa
