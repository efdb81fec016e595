/- At every list of events the program's First answers as the specification's, writes nothing, and the list reads behind the call as it read before; no condition. -/
import Derived.Test.YtcnlkccmibnhmaaFirst
import Derived.Test.YtcnlkccmibnhmaaEqs
import Derived.Test.YtcnlkccmibnhmaaOpenS
namespace Go.Proofs.Ytcnlkccmibnhmaa.LawFirst
open Go.ChangeShapes Go.WideShapes Go.ChangeAt Go.RowKit Go.Proofs.Ytcnlkccmibnhmaa

set_option maxHeartbeats 2000000 in
theorem walk (x : Value) (l : List Ev) (w : World) (hx : IsEvs w x l) :
    Calls Try.prog 8 #[x] w fun e w' => e = .returned (.bool true) ∧ Below w.heap.size w w' := by
  have HX : Hid (IsEvs w x l) := hx
  obtain ⟨a, cap, rfl, h1, h2, _⟩ := hx
  by_cases hl : l.length ≤ 1048576
  · have hlt : ¬ ((1048576 : Int) - (l.length : Int) < 0) := by omega
    obtain ⟨V, bb, hsp, him⟩ := first_same l hl
    have HSP : Hid (∀ (w : World) (g : Nat), RowTo w g l.length l l.length → Calls Try.prog 25 #[.slice (some ⟨g, 0, none⟩) l.length l.length] w fun e w' => e = .returned (.tuple #[V.val, .bool bb]) ∧ Below w.heap.size w w') := hsp
    have HIM : Hid (∀ (w : World) (g : Nat), RowTo w g l.length l l.length → Calls Try.prog 26 #[.slice (some ⟨g, 0, none⟩) l.length l.length] w fun e w' => e = .returned (.tuple #[V.val, .bool bb]) ∧ Below w.heap.size w w') := him
    clear h1 h2 hsp him
    go_enter Try.func8, Try.ntmps8
    go_wp2_with fail
    refine (sz_small a l.length cap _ hl).mono ?_
    rintro e w' ⟨rfl, hw⟩
    have hw' := hw.symm
    clear hw
    subst hw'
    go_wp2_with fail
    refine (toEventS_any _ l _ hl HX.out).mono ?_
    rintro e w1 ⟨rfl, hb1, hr1⟩
    have HR1 : Hid (RowTo w1 w.heap.size l.length l l.length) := hr1
    have HB1 : Hid (Below w.heap.size w w1) := hb1
    clear hr1 hb1
    go_wp2_with fail
    refine (HSP.out _ _ HR1.out).mono ?_
    rintro e w2 ⟨rfl, hb2⟩
    have HB2 : Hid (Below w.heap.size w (w2.alloc (.cells #[.int .i64 V.t, .int .i64 V.s, .int .i64 V.q, .int .i64 V.d, .int .i64 V.k, .int .i64 V.v, .int .i64 V.g] 25))) := (HB1.out.trans (hb2.mono HB1.out.size)).alloc (by have := HB1.out.size; have := hb2.size; omega) _
    have HV2 : Hid (Ev.In (w2.alloc (.cells #[.int .i64 V.t, .int .i64 V.s, .int .i64 V.q, .int .i64 V.d, .int .i64 V.k, .int .i64 V.v, .int .i64 V.g] 25)) w2.heap.size 0 V) := EvAt.new _ _ _ _ _ _ _ _ _
    clear hb2 HR1 HB1 HSP
    have HX2 : Hid (IsEvs (w2.alloc (.cells #[.int .i64 V.t, .int .i64 V.s, .int .i64 V.q, .int .i64 V.d, .int .i64 V.k, .int .i64 V.v, .int .i64 V.g] 25)) (.slice a l.length cap) l) := HX.out.below HB2.out
    go_wp2_with fail
    refine (toEventS_any _ l _ hl HX2.out).mono ?_
    rintro e w3 ⟨rfl, hb3, hr3⟩
    have hr3x : RowTo w3 (w2.heap.size + 1) l.length l l.length := by simpa using hr3
    have HR3 : Hid (RowTo w3 (w2.heap.size + 1) l.length l l.length) := hr3x
    clear hr3x
    have HB3 : Hid (Below w.heap.size w w3) := HB2.out.trans (hb3.mono HB2.out.size)
    have HV3 : Hid (Ev.In w3 w2.heap.size 0 V) := HV2.out.below hb3 (by simp)
    have hz3 : w2.heap.size < w3.heap.size := by have := hb3.size; simp at this; omega
    clear hr3 hb3 HV2 HX2 HB2
    go_wp2_with fail
    refine (HIM.out _ _ HR3.out).mono ?_
    rintro e w4 ⟨rfl, hb4⟩
    have HB4 : Hid (Below w.heap.size w (w4.alloc (.cells #[.int .i64 V.t, .int .i64 V.s, .int .i64 V.q, .int .i64 V.d, .int .i64 V.k, .int .i64 V.v, .int .i64 V.g] 25))) := (HB3.out.trans (hb4.mono HB3.out.size)).alloc (by have := HB3.out.size; have := hb4.size; omega) _
    have hz4 : w2.heap.size < w4.heap.size := Nat.lt_of_lt_of_le hz3 hb4.size
    have hB45 : Below w4.heap.size w4 (w4.alloc (.cells #[.int .i64 V.t, .int .i64 V.s, .int .i64 V.q, .int .i64 V.d, .int .i64 V.k, .int .i64 V.v, .int .i64 V.g] 25)) := (Below.refl _ _).alloc (Nat.le_refl _) _
    obtain ⟨f0, f1, f2, f3, f4, f5, f6⟩ := (HV3.out.below hb4 hz3).lits
    have HE4 : Hid (IsEvs (w4.alloc (.cells #[.int .i64 V.t, .int .i64 V.s, .int .i64 V.q, .int .i64 V.d, .int .i64 V.k, .int .i64 V.v, .int .i64 V.g] 25)) (.slice (some ⟨w2.heap.size + 1, 0, none⟩) l.length l.length) l) := ((HR3.out.isEvs hl).below hb4).below hB45
    have HX4 : Hid (IsEvs (w4.alloc (.cells #[.int .i64 V.t, .int .i64 V.s, .int .i64 V.q, .int .i64 V.d, .int .i64 V.k, .int .i64 V.v, .int .i64 V.g] 25)) (.slice a l.length cap) l) := HX.out.below HB4.out
    clear hb4 HR3 HB3 HV3 HIM hB45 hz3
    go_wp2_with fail
    refine (eqEvent_same _ _ _ _ _ _ _ _).mono ?_
    rintro e w5 ⟨rfl, hb5⟩
    have HB5 : Hid (Below w.heap.size w w5) := HB4.out.trans (hb5.mono HB4.out.size)
    have HE5 : Hid (IsEvs w5 (.slice (some ⟨w2.heap.size + 1, 0, none⟩) l.length l.length) l) := HE4.out.below hb5
    have HX5 : Hid (IsEvs w5 (.slice a l.length cap) l) := HX4.out.below hb5
    clear hb5 HB4 HE4 HX4 f0 f1 f2 f3 f4 f5 f6
    go_wp2_with fail
    refine (toEventS_any _ l _ hl HX5.out).mono ?_
    rintro e w6 ⟨rfl, hb6, hr6⟩
    have HE6 : Hid (IsEvs w6 (.slice (some ⟨w2.heap.size + 1, 0, none⟩) l.length l.length) l) := HE5.out.below hb6
    have HR6 : Hid (IsEvs w6 (.slice (some ⟨w5.heap.size, 0, none⟩) l.length l.length) l) := hr6.isEvs hl
    have HB6 : Hid (Below w.heap.size w w6) := HB5.out.trans (hb6.mono HB5.out.size)
    clear hr6 hb6
    go_wp2_with fail
    refine (eqS_same _ _ l _ hl HE6.out HR6.out).mono ?_
    rintro e w7 ⟨rfl, hb7⟩
    go_wp2_with fail
    go_ret
    exact ⟨rfl, HB6.out.trans (hb7.mono HB6.out.size)⟩
  · go_enter Try.func8, Try.ntmps8
    go_wp2_with fail
    refine (sz_big a l.length cap _ (Nat.le_trans h1 h2) hl).mono ?_
    rintro e w' ⟨rfl, hw⟩
    have hw' := hw.symm
    clear hw
    subst hw'
    go_wp2
    go_ret
    exact ⟨rfl, Below.refl _ _⟩

set_option maxRecDepth 100000 in
theorem lifted (os : Os) (started : os.Started) (H : Type) (enc : TypeId × Value → H) :
    ReturnsInHanded {} Try.checked os 8 .any (Rows.fnExactFirstSpec.pre6 enc Try.prog Try.f8 Rows.fnExactFirstRow.domain false) (Rows.fnExactFirstSpec.post enc Try.prog Try.f8 false true false false) := by
  refine returnsInHanded_of_change (C := Try.checked) own started (by kernel_rfl) Try.func8
    (ChangeSpec.witness6 (enc := enc) (C := Try.checked) false ⟨#[], #[.slice none 0 0], []⟩ 8 (by kernel_rfl) (by kernel_rfl) (by kernel_rfl) (by kernel_rfl)) ?_
  intro W base args ds gs before hval0 hW hcnd _
  have hval : ∀ (j : Nat) t v, Try.f8.params[j]? = some t → args[j]? = some v → Value.okWide Try.prog W .any base t v := hval0
  have hW' := hW
  obtain ⟨p, q, hA0, hV, rfl, hfz, hnd⟩ := hW
  have hA : DataW.TrodAll enc Try.prog W 0 (fun _ => true) true Try.f8.params.toList args.toList ds p := hA0
  rw [Try.params8] at hA hval
  obtain ⟨v0, vs0, d0, ds0, p0, q0, hargs, rfl, rfl, h0, r0⟩ := trodAll_cons hA
  obtain ⟨rfl, rfl, rfl⟩ := trodAll_nil r0
  obtain rfl : args = #[v0] := by cases args; simp_all
  obtain ⟨rfl, rfl⟩ := trodVars_none hV
  have k0 := h0
  have lt0 : ∀ x ∈ p0, x.block < W.heap.size := by obtain ⟨m, hm⟩ := k0; exact DataW.trod_lt m _ _ _ hm
  obtain ⟨l0, g0⟩ := open_evs (hval 0 30 v0 rfl rfl) h0
  clear hA0 hval0
  refine (walk v0 l0 W g0).mono fun e W' ⟨he, bel⟩ => ?_
  subst he
  exact ⟨_, rfl, _, _, _, [], _, [], hW', trodAll_mk1 (shut_bool Try.underlying4 _), (trodAll_cons_mk (Below.trod laidOut (by kernel_rfl) (of_decide_eq_true (by kernel_rfl)) k0 bel lt0) trodAll_mk0), rfl, bel.frame _, fun h => by cases h⟩

theorem over : Rows.fnExactFirstRow.holds Try.pinned (OpenSpec.ofChange Rows.fnExactFirstSpec) :=
  OpenClaim.holds_of_wide 8 Try.f8 rfl rfl rfl rfl rfl rfl rfl ⟨rfl, rfl, rfl, rfl, rfl⟩ rfl rfl rfl rfl rfl (by kernel_rfl) Try.func8 (by kernel_rfl)
    (of_decide_eq_true (by kernel_rfl)) (by unfold Func.isWrapper; first | (rw [if_pos (by decide +kernel)]; kernel_rfl) | (rw [if_neg (by decide +kernel)]; exact ⟨rfl, rfl⟩))
    (fun os started H enc _ => lifted os started H enc)
end Go.Proofs.Ytcnlkccmibnhmaa.LawFirst
namespace Go.Proofs.Ytcnlkccmibnhmaa
theorem first_holds : Rows.FnExactFirstSaid := LawFirst.over
#print axioms first_holds
end Go.Proofs.Ytcnlkccmibnhmaa
